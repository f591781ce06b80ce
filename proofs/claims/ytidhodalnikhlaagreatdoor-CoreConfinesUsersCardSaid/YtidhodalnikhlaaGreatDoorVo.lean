/-
  THE WALKS OF the reference's Form, Has, register, branch, Access, Privileged.
-/
import Derived.Test.YtidhodalnikhlaaGreatDoorVk
namespace Go.Proofs.YtidhodalnikhlaaGreatDoor
open Go.RowKit Go.ChangeShapes Go.WideShapes Go.ChangeAt

set_option maxRecDepth 100000 in
set_option maxHeartbeats 4000000 in
theorem refForm_any (op : Int) (w : World) : Calls Tryz.prog 67 #[.int .i64 op] w fun e w' => e = .returned (.int .i64 (Im.form op)) ∧ w = w' := by
  rcases Int.lt_or_le op 0 with h | h
  · rw [Im.form_out (.inl h)]
    have n16 : (op == 16) = false := beq_eq_false_iff_ne.2 (by omega)
    have n33 : (op == 33) = false := beq_eq_false_iff_ne.2 (by omega)
    have n17 : (op == 17) = false := beq_eq_false_iff_ne.2 (by omega)
    have n32 : (op == 32) = false := beq_eq_false_iff_ne.2 (by omega)
    have n42 : (op == 42) = false := beq_eq_false_iff_ne.2 (by omega)
    have n43 : (op == 43) = false := beq_eq_false_iff_ne.2 (by omega)
    have n46 : (op == 46) = false := beq_eq_false_iff_ne.2 (by omega)
    have n47 : (op == 47) = false := beq_eq_false_iff_ne.2 (by omega)
    have n44 : (op == 44) = false := beq_eq_false_iff_ne.2 (by omega)
    have n40 : (op == 40) = false := beq_eq_false_iff_ne.2 (by omega)
    have n41 : (op == 41) = false := beq_eq_false_iff_ne.2 (by omega)
    have n45 : (op == 45) = false := beq_eq_false_iff_ne.2 (by omega)
    have n48 : (op == 48) = false := beq_eq_false_iff_ne.2 (by omega)
    have g1 : ¬ 1 ≤ op := by omega
    have g2 : ¬ 20 ≤ op := by omega
    have g3 : ¬ 28 ≤ op := by omega
    clear h
    go_enter Tryz.func67, Tryz.ntmps67
    go_wp2
    go_ret
    exact ⟨rfl, rfl⟩
  · rcases Int.lt_or_le 48 op with h2 | h2
    · rw [Im.form_out (.inr (by omega))]
      have n16 : (op == 16) = false := beq_eq_false_iff_ne.2 (by omega)
      have n33 : (op == 33) = false := beq_eq_false_iff_ne.2 (by omega)
      have n17 : (op == 17) = false := beq_eq_false_iff_ne.2 (by omega)
      have n32 : (op == 32) = false := beq_eq_false_iff_ne.2 (by omega)
      have n42 : (op == 42) = false := beq_eq_false_iff_ne.2 (by omega)
      have n43 : (op == 43) = false := beq_eq_false_iff_ne.2 (by omega)
      have n46 : (op == 46) = false := beq_eq_false_iff_ne.2 (by omega)
      have n47 : (op == 47) = false := beq_eq_false_iff_ne.2 (by omega)
      have n44 : (op == 44) = false := beq_eq_false_iff_ne.2 (by omega)
      have n40 : (op == 40) = false := beq_eq_false_iff_ne.2 (by omega)
      have n41 : (op == 41) = false := beq_eq_false_iff_ne.2 (by omega)
      have n45 : (op == 45) = false := beq_eq_false_iff_ne.2 (by omega)
      have n48 : (op == 48) = false := beq_eq_false_iff_ne.2 (by omega)
      have g1 : 1 ≤ op := by omega
      have g2 : 20 ≤ op := by omega
      have g3 : 28 ≤ op := by omega
      have g4 : ¬ op ≤ 12 := by omega
      have g5 : ¬ op ≤ 24 := by omega
      have g6 : ¬ op ≤ 31 := by omega
      clear h h2
      go_enter Tryz.func67, Tryz.ntmps67
      go_wp2
      go_ret
      exact ⟨rfl, rfl⟩
    · obtain rfl | rfl | rfl | rfl | rfl | rfl | rfl | rfl | rfl | rfl | rfl | rfl | rfl | rfl | rfl | rfl | rfl | rfl | rfl | rfl | rfl | rfl | rfl | rfl | rfl | rfl | rfl | rfl | rfl | rfl | rfl | rfl | rfl | rfl | rfl | rfl | rfl | rfl | rfl | rfl | rfl | rfl | rfl | rfl | rfl | rfl | rfl | rfl | rfl : op = 0 ∨ op = 1 ∨ op = 2 ∨ op = 3 ∨ op = 4 ∨ op = 5 ∨ op = 6 ∨ op = 7 ∨ op = 8 ∨ op = 9 ∨ op = 10 ∨ op = 11 ∨ op = 12 ∨ op = 13 ∨ op = 14 ∨ op = 15 ∨ op = 16 ∨ op = 17 ∨ op = 18 ∨ op = 19 ∨ op = 20 ∨ op = 21 ∨ op = 22 ∨ op = 23 ∨ op = 24 ∨ op = 25 ∨ op = 26 ∨ op = 27 ∨ op = 28 ∨ op = 29 ∨ op = 30 ∨ op = 31 ∨ op = 32 ∨ op = 33 ∨ op = 34 ∨ op = 35 ∨ op = 36 ∨ op = 37 ∨ op = 38 ∨ op = 39 ∨ op = 40 ∨ op = 41 ∨ op = 42 ∨ op = 43 ∨ op = 44 ∨ op = 45 ∨ op = 46 ∨ op = 47 ∨ op = 48 := by omega
      all_goals
        clear h h2
        go_enter Tryz.func67, Tryz.ntmps67
        go_wp2
        go_ret
        exact ⟨congrArg (fun x => Ending.returned (.int .i64 x)) (by decide +kernel), rfl⟩
set_option maxRecDepth 100000 in
/-- Whether a form has a field. -/
def hasF (f : Int) (k : Int) : Bool := if f = 1 then decide (k ≤ 3) else if f = 2 then k != 3 else if f = 3 then k == 1 || k == 4 else if f = 4 then k == 2 else false
set_option maxRecDepth 100000 in
theorem refHas_any (f k : Int) (hf : f = 1 ∨ f = 2 ∨ f = 3 ∨ f = 4 ∨ f = 5) (hk : k = 1 ∨ k = 2 ∨ k = 3 ∨ k = 4) (w : World) : Calls Tryz.prog 69 #[.int .i64 f, .int .i64 k] w fun e w' => e = .returned (.bool (hasF f k)) ∧ w = w' := by
  rcases hf with rfl | rfl | rfl | rfl | rfl <;> rcases hk with rfl | rfl | rfl | rfl
  all_goals
    go_enter Tryz.func69, Tryz.ntmps69
    go_wp2
    go_ret
    exact ⟨congrArg (fun x => Ending.returned (.bool x)) (by decide), rfl⟩
set_option maxRecDepth 100000 in
/-- Whether a field of a register is right. -/
def regF (n : Int) (has : Bool) : Bool := n == 0 || (has && decide (1 ≤ n) && decide (n < 16))
set_option maxRecDepth 100000 in
theorem refReg_any (n : Int) (has : Bool) (w : World) : Calls Tryz.prog 68 #[.int .i64 n, .bool has] w fun e w' => e = .returned (.bool (regF n has)) ∧ w = w' := by
  by_cases h0 : n = 0
  · subst h0
    go_enter Tryz.func68, Tryz.ntmps68
    go_wp2
    go_ret
    exact ⟨congrArg (fun x => Ending.returned (.bool x)) (by cases has <;> rfl), rfl⟩
  · have n0 : (n == 0) = false := beq_eq_false_iff_ne.2 h0
    have hr : regF n has = (has && decide (1 ≤ n) && decide (n < 16)) := by unfold regF; rw [n0, Bool.false_or]
    rw [hr]
    cases has with
    | false =>
      go_enter Tryz.func68, Tryz.ntmps68
      go_wp2
      go_ret
      exact ⟨rfl, rfl⟩
    | true =>
      rcases Int.lt_or_le n 1 with h1 | h1
      · have g : ¬ 1 ≤ n := by omega
        rw [decide_eq_false g]
        go_enter Tryz.func68, Tryz.ntmps68
        go_wp2
        go_ret
        exact ⟨rfl, rfl⟩
      · rw [decide_eq_true h1]
        rcases Int.lt_or_le n 16 with h2 | h2
        · rw [decide_eq_true h2]
          go_enter Tryz.func68, Tryz.ntmps68
          go_wp2
          go_ret
          exact ⟨rfl, rfl⟩
        · have g : ¬ n < 16 := by omega
          rw [decide_eq_false g]
          go_enter Tryz.func68, Tryz.ntmps68
          go_wp2
          go_ret
          exact ⟨rfl, rfl⟩
end Go.Proofs.YtidhodalnikhlaaGreatDoor
