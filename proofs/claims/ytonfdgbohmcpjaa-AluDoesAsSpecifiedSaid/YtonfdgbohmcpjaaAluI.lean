/-
  THE WALKS OF the reference: Do, Taken.
-/
import Derived.Test.YtonfdgbohmcpjaaAluH
namespace Go.Proofs.Ytonfdgbohmcpjaa
open Go.RowKit Go.ChangeShapes Go.WideShapes Go.ChangeAt

theorem later1 (w : World) (o : Obj) : Later w (w.alloc o) := (Below.refl _ _).alloc (Nat.le_refl _) o
set_option maxRecDepth 100000 in
theorem did_ret {w : World} {fn : Func} {p : Tmp} (h : fn.results = #[.cell p 27]) (tmps : Array Value) (g : Nat) (t : TypeId) (x y : Value)
    (hp : tmps.getD p undef = .pointer (some ⟨g, 0, none⟩)) (hg : Blk w g t [x, y]) : (results fn tmps).run Try.prog w = .ok (.agg #[x, y]) w :=
  results_blk h tmps w g t [x, y] _ hp hg Try.underlying27 rfl (by kernel_rfl)

section
variable {b c : Int} (hb0 : 0 ≤ b) (hb1 : b < 4294967296) (hc0 : 0 ≤ c) (hc1 : c < 4294967296) (w : World)
include hb0 hb1 hc0 hc1 in
set_option maxRecDepth 100000 in
theorem rdo1_any : Calls Try.prog 11 #[.int .i64 1, .int .u32 b, .int .u32 c] w fun e w' => e = .returned (.agg #[.int .u32 (Al.I 1 b c), .int .i64 0]) ∧ Later w w' := by
  rw [Al.I1 hb0 hb1 hc0 hc1]
  have HW := Lib.hid fun n w => word_any n w
  go_enter Try.func11, Try.ntmps11
  go_wp2_with (go_at_call 26; refine (HW.out _ _).mono ?_; rintro e w1 ⟨rfl, rfl⟩)
  exact bodyPost_ret (v := .agg _) (did_ret Try.results11 _ w.heap.size _ _ _ rfl (Blk.new _ _ _ _ rfl)) rfl ⟨rfl, later1 _ _⟩
include hb0 hb1 hc0 hc1 in
set_option maxRecDepth 100000 in
theorem rdo2_any : Calls Try.prog 11 #[.int .i64 2, .int .u32 b, .int .u32 c] w fun e w' => e = .returned (.agg #[.int .u32 (Al.I 2 b c), .int .i64 0]) ∧ Later w w' := by
  rw [Al.I2 hb0 hb1 hc0 hc1]
  have HW := Lib.hid fun n w => word_any n w
  go_enter Try.func11, Try.ntmps11
  go_wp2_with (go_at_call 26; refine (HW.out _ _).mono ?_; rintro e w1 ⟨rfl, rfl⟩)
  exact bodyPost_ret (v := .agg _) (did_ret Try.results11 _ w.heap.size _ _ _ rfl (Blk.new _ _ _ _ rfl)) rfl ⟨rfl, later1 _ _⟩
include hb0 hb1 hc0 hc1 in
set_option maxRecDepth 100000 in
theorem rdo3_any : Calls Try.prog 11 #[.int .i64 3, .int .u32 b, .int .u32 c] w fun e w' => e = .returned (.agg #[.int .u32 (Al.I 3 b c), .int .i64 0]) ∧ Later w w' := by
  obtain ⟨n, rfl⟩ := Int.eq_ofNat_of_zero_le hb0
  obtain ⟨m, rfl⟩ := Int.eq_ofNat_of_zero_le hc0
  have HL := Lib.hid fun w => rlogic3_any n m (by omega) (by omega) w
  obtain ⟨x, hx⟩ : ∃ x, x = Al.I 3 n m := ⟨_, rfl⟩
  rw [← hx] at HL ⊢
  clear hx
  go_enter Try.func11, Try.ntmps11
  go_wp2_with (go_at_call 27; refine (HL.out _).mono ?_; rintro e w1 ⟨rfl, rfl⟩)
  exact bodyPost_ret (v := .agg _) (did_ret Try.results11 _ w.heap.size _ _ _ rfl (Blk.new _ _ _ _ rfl)) rfl ⟨rfl, later1 _ _⟩
include hb0 hb1 hc0 hc1 in
set_option maxRecDepth 100000 in
theorem rdo4_any : Calls Try.prog 11 #[.int .i64 4, .int .u32 b, .int .u32 c] w fun e w' => e = .returned (.agg #[.int .u32 (Al.I 4 b c), .int .i64 0]) ∧ Later w w' := by
  obtain ⟨n, rfl⟩ := Int.eq_ofNat_of_zero_le hb0
  obtain ⟨m, rfl⟩ := Int.eq_ofNat_of_zero_le hc0
  have HL := Lib.hid fun w => rlogic4_any n m (by omega) (by omega) w
  obtain ⟨x, hx⟩ : ∃ x, x = Al.I 4 n m := ⟨_, rfl⟩
  rw [← hx] at HL ⊢
  clear hx
  go_enter Try.func11, Try.ntmps11
  go_wp2_with (go_at_call 27; refine (HL.out _).mono ?_; rintro e w1 ⟨rfl, rfl⟩)
  exact bodyPost_ret (v := .agg _) (did_ret Try.results11 _ w.heap.size _ _ _ rfl (Blk.new _ _ _ _ rfl)) rfl ⟨rfl, later1 _ _⟩
include hb0 hb1 hc0 hc1 in
set_option maxRecDepth 100000 in
theorem rdo5_any : Calls Try.prog 11 #[.int .i64 5, .int .u32 b, .int .u32 c] w fun e w' => e = .returned (.agg #[.int .u32 (Al.I 5 b c), .int .i64 0]) ∧ Later w w' := by
  obtain ⟨n, rfl⟩ := Int.eq_ofNat_of_zero_le hb0
  obtain ⟨m, rfl⟩ := Int.eq_ofNat_of_zero_le hc0
  have HL := Lib.hid fun w => rlogic5_any n m (by omega) (by omega) w
  obtain ⟨x, hx⟩ : ∃ x, x = Al.I 5 n m := ⟨_, rfl⟩
  rw [← hx] at HL ⊢
  clear hx
  go_enter Try.func11, Try.ntmps11
  go_wp2_with (go_at_call 27; refine (HL.out _).mono ?_; rintro e w1 ⟨rfl, rfl⟩)
  exact bodyPost_ret (v := .agg _) (did_ret Try.results11 _ w.heap.size _ _ _ rfl (Blk.new _ _ _ _ rfl)) rfl ⟨rfl, later1 _ _⟩
include hb0 hb1 hc0 hc1 in
set_option maxRecDepth 100000 in
theorem rdo6_any : Calls Try.prog 11 #[.int .i64 6, .int .u32 b, .int .u32 c] w fun e w' => e = .returned (.agg #[.int .u32 (Al.I 6 b c), .int .i64 0]) ∧ Later w w' := by
  rw [Al.I6 hb0 hb1 hc0 hc1]
  obtain ⟨j, hj⟩ := Int.eq_ofNat_of_zero_le (show 0 ≤ c % 32 by omega)
  have hj1 : j < 32 := by omega
  have HP := Lib.hid fun w => power_any j (by omega) w
  rw [hj, show ((j : Int).toNat) = j from rfl, show (2 : Int) ^ j = ((2 ^ j : Nat) : Int) by rw [Int.natCast_pow]; rfl]
  have hq1 : 0 < 2 ^ j := Nat.two_pow_pos j
  obtain ⟨q, hq⟩ : ∃ q, q = 2 ^ j := ⟨_, rfl⟩
  rw [← hq] at HP hq1 ⊢
  have hq0 : ¬ ((q : Int) = 0) := by omega
  clear hq
  go_enter Try.func11, Try.ntmps11
  go_wp2_with (go_at_call 28; refine (HP.out _).mono ?_; rintro e w1 ⟨rfl, rfl⟩)
  exact bodyPost_ret (v := .agg _) (did_ret Try.results11 _ w.heap.size _ _ _ rfl (Blk.new _ _ _ _ rfl)) rfl ⟨rfl, later1 _ _⟩
include hb0 hb1 hc0 hc1 in
set_option maxRecDepth 100000 in
theorem rdo7_any : Calls Try.prog 11 #[.int .i64 7, .int .u32 b, .int .u32 c] w fun e w' => e = .returned (.agg #[.int .u32 (Al.I 7 b c), .int .i64 0]) ∧ Later w w' := by
  rw [Al.I7 hb0 hb1 hc0 hc1]
  obtain ⟨j, hj⟩ := Int.eq_ofNat_of_zero_le (show 0 ≤ c % 32 by omega)
  have hj1 : j < 32 := by omega
  have HP := Lib.hid fun w => power_any j (by omega) w
  rw [hj, show ((j : Int).toNat) = j from rfl, show (2 : Int) ^ j = ((2 ^ j : Nat) : Int) by rw [Int.natCast_pow]; rfl]
  have hq1 : 0 < 2 ^ j := Nat.two_pow_pos j
  obtain ⟨q, hq⟩ : ∃ q, q = 2 ^ j := ⟨_, rfl⟩
  rw [← hq] at HP hq1 ⊢
  have hq0 : ¬ ((q : Int) = 0) := by omega
  clear hq
  have hd : 0 ≤ b / (q : Int) ∧ b / (q : Int) < 4294967296 := by
    obtain ⟨n, rfl⟩ := Int.eq_ofNat_of_zero_le hb0
    have h1 : n / q ≤ n := Nat.div_le_self _ _
    rw [show (n : Int) / (q : Int) = ((n / q : Nat) : Int) from rfl]
    generalize n / q = d at h1
    omega
  have hdm : b / (q : Int) % 4294967296 = b / (q : Int) := Int.emod_eq_of_lt hd.1 hd.2
  go_enter Try.func11, Try.ntmps11
  go_wp2_with (go_at_call 28; refine (HP.out _).mono ?_; rintro e w1 ⟨rfl, rfl⟩)
  exact bodyPost_ret (v := .agg _) (did_ret Try.results11 _ w.heap.size _ _ _ rfl (Blk.new _ _ _ _ rfl)) rfl ⟨rfl, later1 _ _⟩
include hb0 hb1 hc0 hc1 in
set_option maxRecDepth 100000 in
theorem rdo8_any : Calls Try.prog 11 #[.int .i64 8, .int .u32 b, .int .u32 c] w fun e w' => e = .returned (.agg #[.int .u32 (Al.I 8 b c), .int .i64 0]) ∧ Later w w' := by
  rw [Al.I8 hb0 hb1 hc0 hc1]
  go_enter Try.func11, Try.ntmps11
  go_wp2
  exact bodyPost_ret (v := .agg _) (did_ret Try.results11 _ w.heap.size _ _ _ rfl (Blk.new _ _ _ _ rfl)) rfl ⟨rfl, later1 _ _⟩
include hb0 hb1 hc0 hc1 in
set_option maxRecDepth 100000 in
theorem rdo9_any : Calls Try.prog 11 #[.int .i64 9, .int .u32 b, .int .u32 c] w fun e w' => e = .returned (.agg #[.int .u32 (Al.I 9 b c), .int .i64 0]) ∧ Later w w' := by
  rw [Al.I9 hb0 hb1 hc0 hc1]
  by_cases h : c = 0
  · subst h
    rw [if_pos rfl]
    go_enter Try.func11, Try.ntmps11
    go_wp2
    exact bodyPost_ret (v := .agg _) (did_ret Try.results11 _ w.heap.size _ _ _ rfl (Blk.new _ _ _ _ rfl)) rfl ⟨rfl, later1 _ _⟩
  · rw [if_neg h]
    have hd0 : 0 ≤ b / c := Int.ediv_nonneg hb0 hc0
    have hd1 : b / c ≤ b := Int.ediv_le_self _ hb0
    have hd2 : b / c % 4294967296 = b / c := Int.emod_eq_of_lt hd0 (by omega)
    go_enter Try.func11, Try.ntmps11
    go_wp2
    exact bodyPost_ret (v := .agg _) (did_ret Try.results11 _ w.heap.size _ _ _ rfl (Blk.new _ _ _ _ rfl)) rfl ⟨rfl, later1 _ _⟩
include hb0 hb1 hc0 hc1 in
set_option maxRecDepth 100000 in
theorem rdo10_any : Calls Try.prog 11 #[.int .i64 10, .int .u32 b, .int .u32 c] w fun e w' => e = .returned (.agg #[.int .u32 (Al.I 10 b c), .int .i64 0]) ∧ Later w w' := by
  rw [Al.I10 hb0 hb1 hc0 hc1]
  by_cases h : c = 0
  · subst h
    rw [if_pos rfl]
    go_enter Try.func11, Try.ntmps11
    go_wp2
    exact bodyPost_ret (v := .agg _) (did_ret Try.results11 _ w.heap.size _ _ _ rfl (Blk.new _ _ _ _ rfl)) rfl ⟨rfl, later1 _ _⟩
  · rw [if_neg h]
    have hd0 : 0 ≤ b / c := Int.ediv_nonneg hb0 hc0
    have hd1 : b / c ≤ b := Int.ediv_le_self _ hb0
    have hd2 : b / c % 4294967296 = b / c := Int.emod_eq_of_lt hd0 (by omega)
    have hm0 : b / c * c ≤ b := Int.ediv_mul_le b h
    have hm1 : 0 ≤ b / c * c := Int.mul_nonneg hd0 hc0
    have hm2 : b / c * c % 4294967296 = b / c * c := Int.emod_eq_of_lt hm1 (by omega)
    have hm3 : (b - b / c * c) % 4294967296 = b - b / c * c := Int.emod_eq_of_lt (by omega) (by omega)
    rw [show b % c = b - b / c * c by have := Int.mul_ediv_add_emod b c; rw [Int.mul_comm] at this; omega]
    go_enter Try.func11, Try.ntmps11
    go_wp2
    exact bodyPost_ret (v := .agg _) (did_ret Try.results11 _ w.heap.size _ _ _ rfl (Blk.new _ _ _ _ rfl)) rfl ⟨rfl, later1 _ _⟩
include hb0 hb1 hc0 hc1 in
set_option maxRecDepth 100000 in
theorem rdo11_any : Calls Try.prog 11 #[.int .i64 11, .int .u32 b, .int .u32 c] w fun e w' => e = .returned (.agg #[.int .u32 (Al.I 11 b c), .int .i64 0]) ∧ Later w w' := by
  have HS1 := Lib.hid (fun w => rsigned_any hb0 hb1 w)
  have HS2 := Lib.hid (fun w => rsigned_any hc0 hc1 w)
  obtain ⟨s, hs⟩ : ∃ s, s = Al.S b := ⟨_, rfl⟩
  obtain ⟨t, ht⟩ : ∃ t, t = Al.S c := ⟨_, rfl⟩
  rw [← hs] at HS1
  rw [← ht] at HS2
  have HO := Lib.hid fun q w => one_any q w
  rw [Al.I11, ← hs, ← ht]
  clear hs ht
  go_enter Try.func11, Try.ntmps11
  go_wp2_with (first | (go_at_call 18; first | (with_reducible refine (HS1.out _).mono ?_; rintro e w1 ⟨rfl, rfl⟩) | (with_reducible refine (HS2.out _).mono ?_; rintro e w1 ⟨rfl, rfl⟩)) | (go_at_call 29; refine (HO.out _ _).mono ?_; rintro e w1 ⟨rfl, rfl⟩))
  all_goals (exact bodyPost_ret (v := .agg _) (did_ret Try.results11 _ w.heap.size _ _ _ rfl (Blk.new _ _ _ _ rfl)) rfl ⟨rfl, later1 _ _⟩)
include hb0 hb1 hc0 hc1 in
set_option maxRecDepth 100000 in
theorem rdo12_any : Calls Try.prog 11 #[.int .i64 12, .int .u32 b, .int .u32 c] w fun e w' => e = .returned (.agg #[.int .u32 (Al.I 12 b c), .int .i64 0]) ∧ Later w w' := by
  have HO := Lib.hid fun q w => one_any q w
  rw [Al.I12 hb0 hb1 hc0 hc1]
  go_enter Try.func11, Try.ntmps11
  go_wp2_with (go_at_call 29; refine (HO.out _ _).mono ?_; rintro e w1 ⟨rfl, rfl⟩)
  all_goals (exact bodyPost_ret (v := .agg _) (did_ret Try.results11 _ w.heap.size _ _ _ rfl (Blk.new _ _ _ _ rfl)) rfl ⟨rfl, later1 _ _⟩)
set_option maxRecDepth 100000 in
theorem rdon_any (op : Int) (h : ¬ (1 ≤ op ∧ op ≤ 12)) : Calls Try.prog 11 #[.int .i64 op, .int .u32 b, .int .u32 c] w fun e w' => e = .returned (.agg #[.int .u32 0, .int .i64 1]) ∧ Later w w' := by
  have e1 : (op == 1) = false := beq_false_of_ne (by omega)
  have e2 : (op == 2) = false := beq_false_of_ne (by omega)
  have e3 : (op == 3) = false := beq_false_of_ne (by omega)
  have e4 : (op == 4) = false := beq_false_of_ne (by omega)
  have e5 : (op == 5) = false := beq_false_of_ne (by omega)
  have e6 : (op == 6) = false := beq_false_of_ne (by omega)
  have e7 : (op == 7) = false := beq_false_of_ne (by omega)
  have e8 : (op == 8) = false := beq_false_of_ne (by omega)
  have e9 : (op == 9) = false := beq_false_of_ne (by omega)
  have e10 : (op == 10) = false := beq_false_of_ne (by omega)
  have e11 : (op == 11) = false := beq_false_of_ne (by omega)
  have e12 : (op == 12) = false := beq_false_of_ne (by omega)
  clear h
  go_enter Try.func11, Try.ntmps11
  go_wp2
  exact bodyPost_ret (v := .agg _) (did_ret Try.results11 _ w.heap.size _ _ _ rfl (Blk.new _ _ _ _ rfl)) rfl ⟨rfl, later1 _ _⟩
include hb0 hb1 hc0 hc1 in
theorem rdo_any (op : Int) : Calls Try.prog 11 #[.int .i64 op, .int .u32 b, .int .u32 c] w fun e w' => e = .returned (.agg #[.int .u32 (Al.I op b c), .int .i64 (Al.Er op)]) ∧ Later w w' := by
  by_cases h : 1 ≤ op ∧ op ≤ 12
  · rcases (show op = 1 ∨ op = 2 ∨ op = 3 ∨ op = 4 ∨ op = 5 ∨ op = 6 ∨ op = 7 ∨ op = 8 ∨ op = 9 ∨ op = 10 ∨ op = 11 ∨ op = 12 by omega) with rfl | rfl | rfl | rfl | rfl | rfl | rfl | rfl | rfl | rfl | rfl | rfl
    · exact rdo1_any hb0 hb1 hc0 hc1 w
    · exact rdo2_any hb0 hb1 hc0 hc1 w
    · exact rdo3_any hb0 hb1 hc0 hc1 w
    · exact rdo4_any hb0 hb1 hc0 hc1 w
    · exact rdo5_any hb0 hb1 hc0 hc1 w
    · exact rdo6_any hb0 hb1 hc0 hc1 w
    · exact rdo7_any hb0 hb1 hc0 hc1 w
    · exact rdo8_any hb0 hb1 hc0 hc1 w
    · exact rdo9_any hb0 hb1 hc0 hc1 w
    · exact rdo10_any hb0 hb1 hc0 hc1 w
    · exact rdo11_any hb0 hb1 hc0 hc1 w
    · exact rdo12_any hb0 hb1 hc0 hc1 w
  · rw [Al.I_none h, Al.Er_none h]
    exact rdon_any w op h
include hb0 hb1 hc0 hc1 in
set_option maxRecDepth 100000 in
theorem rtk28_any : Calls Try.prog 14 #[.int .i64 28, .int .u32 b, .int .u32 c] w fun e w' => e = .returned (.bool (Al.T 28 b c)) ∧ w = w' := by
  have e : Al.T 28 b c = decide (b = c) := Al.T28 hb0 hb1 hc0 hc1
  rw [e]
  go_enter Try.func14, Try.ntmps14
  go_wp2
  go_ret
  exact ⟨rfl, rfl⟩
include hb0 hb1 hc0 hc1 in
set_option maxRecDepth 100000 in
theorem rtk29_any : Calls Try.prog 14 #[.int .i64 29, .int .u32 b, .int .u32 c] w fun e w' => e = .returned (.bool (Al.T 29 b c)) ∧ w = w' := by
  have e : Al.T 29 b c = !decide (b = c) := Al.T29 hb0 hb1 hc0 hc1
  rw [e]
  go_enter Try.func14, Try.ntmps14
  go_wp2
  go_ret
  exact ⟨rfl, rfl⟩
include hb0 hb1 hc0 hc1 in
set_option maxRecDepth 100000 in
theorem rtk30_any : Calls Try.prog 14 #[.int .i64 30, .int .u32 b, .int .u32 c] w fun e w' => e = .returned (.bool (Al.T 30 b c)) ∧ w = w' := by
  have HS1 := Lib.hid (fun w => rsigned_any hb0 hb1 w)
  have HS2 := Lib.hid (fun w => rsigned_any hc0 hc1 w)
  obtain ⟨s, hs⟩ : ∃ s, s = Al.S b := ⟨_, rfl⟩
  obtain ⟨t, ht⟩ : ∃ t, t = Al.S c := ⟨_, rfl⟩
  rw [← hs] at HS1
  rw [← ht] at HS2
  rw [Al.T30, ← hs, ← ht]
  clear hs ht
  go_enter Try.func14, Try.ntmps14
  go_wp2_with (go_at_call 18; first | (with_reducible refine (HS1.out _).mono ?_; rintro e w1 ⟨rfl, rfl⟩) | (with_reducible refine (HS2.out _).mono ?_; rintro e w1 ⟨rfl, rfl⟩))
  go_ret
  exact ⟨rfl, rfl⟩
include hb0 hb1 hc0 hc1 in
set_option maxRecDepth 100000 in
theorem rtk31_any : Calls Try.prog 14 #[.int .i64 31, .int .u32 b, .int .u32 c] w fun e w' => e = .returned (.bool (Al.T 31 b c)) ∧ w = w' := by
  rw [Al.T31 hb0 hb1 hc0 hc1]
  go_enter Try.func14, Try.ntmps14
  go_wp2
  go_ret
  exact ⟨rfl, rfl⟩
set_option maxRecDepth 100000 in
theorem rtkn_any (op : Int) (h : ¬ (28 ≤ op ∧ op ≤ 31)) : Calls Try.prog 14 #[.int .i64 op, .int .u32 b, .int .u32 c] w fun e w' => e = .returned (.bool false) ∧ w = w' := by
  have e28 : (op == 28) = false := beq_false_of_ne (by omega)
  have e29 : (op == 29) = false := beq_false_of_ne (by omega)
  have e30 : (op == 30) = false := beq_false_of_ne (by omega)
  have e31 : (op == 31) = false := beq_false_of_ne (by omega)
  clear h
  go_enter Try.func14, Try.ntmps14
  go_wp2
  go_ret
  exact ⟨rfl, rfl⟩
include hb0 hb1 hc0 hc1 in
theorem rtk_any (op : Int) : Calls Try.prog 14 #[.int .i64 op, .int .u32 b, .int .u32 c] w fun e w' => e = .returned (.bool (Al.T op b c)) ∧ w = w' := by
  by_cases h : 28 ≤ op ∧ op ≤ 31
  · rcases (show op = 28 ∨ op = 29 ∨ op = 30 ∨ op = 31 by omega) with rfl | rfl | rfl | rfl
    · exact rtk28_any hb0 hb1 hc0 hc1 w
    · exact rtk29_any hb0 hb1 hc0 hc1 w
    · exact rtk30_any hb0 hb1 hc0 hc1 w
    · exact rtk31_any hb0 hb1 hc0 hc1 w
  · rw [Al.T_none h]
    exact rtkn_any w op h
end
end Go.Proofs.Ytonfdgbohmcpjaa
