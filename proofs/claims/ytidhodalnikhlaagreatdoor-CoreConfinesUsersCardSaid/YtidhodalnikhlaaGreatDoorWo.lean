/-
  A WHOLE STEP BY ITS MODEL.
-/
import Derived.Test.YtidhodalnikhlaaGreatDoorWn
namespace Go.Proofs.YtidhodalnikhlaaGreatDoor
open Go.RowKit Go.ChangeShapes Go.WideShapes Go.ChangeAt

/-- The method of an operation, by number. -/
def fF (op : Int) : Nat := if op = 16 then 151 else if op = 17 then 152 else if op = 20 ∨ op = 22 then 153 else if op = 21 ∨ op = 23 then 154 else if op = 24 then 155 else if 28 ≤ op ∧ op ≤ 31 then 156 else if op = 32 then 157 else if op = 33 then 158 else if op = 40 then 159 else if op = 41 then 143 else if op = 42 then 144 else if op = 43 then 145 else if op = 44 then 146 else if op = 45 then 147 else if op = 46 then 148 else if op = 47 then 149 else if op = 48 then 150 else 120
theorem op_cases {op : Int} (h : Im.form op ≠ 0) : (1 ≤ op ∧ op ≤ 12) ∨ op = 16 ∨ op = 17 ∨ (op = 20 ∨ op = 22) ∨ (op = 21 ∨ op = 23) ∨ op = 24 ∨ (28 ≤ op ∧ op ≤ 31) ∨ op = 32 ∨ op = 33 ∨ op = 40 ∨ op = 41 ∨ op = 42 ∨ op = 43 ∨ op = 44 ∨ op = 45 ∨ op = 46 ∨ op = 47 ∨ op = 48 := by
  have h1 : 0 ≤ op ∧ op < 49 := by
    refine ⟨?_, ?_⟩
    · refine Int.not_lt.1 fun k => h (Im.form_out (Or.inl k))
    · refine Int.not_le.1 fun k => h (Im.form_out (Or.inr k))
  obtain ⟨k, rfl⟩ := Int.eq_ofNat_of_zero_le h1.1
  have key : ∀ k : Nat, k < 49 → (Im.formN k == 0 || decide (1 ≤ k ∧ k ≤ 12) || decide (28 ≤ k ∧ k ≤ 31) || k == 16 || k == 17 || k == 20 || k == 22 || k == 21 || k == 23 || k == 24 || k == 32 || k == 33 || k == 40 || k == 41 || k == 42 || k == 43 || k == 44 || k == 45 || k == 46 || k == 47 || k == 48) = true := by decide +kernel
  have h2 := key k (by omega)
  have h3 : Im.formN k ≠ 0 := fun e => h (by rw [Im.form_nat, e]; rfl)
  simp only [Bool.or_eq_true, decide_eq_true_eq, beq_iff_eq] at h2
  omega
theorem fnd_of {op : Int} (h : Im.form op ≠ 0) : fnd op = .func (.func (fF op)) #[] #[] ∧ ∀ (a : Array Value) (w : World), (callFunc (fF op) a).run Tryz.prog w = .ok (.enter (fF op) a) w := by
  rcases op_cases h with ⟨q1, q2⟩ | rfl | rfl | (rfl | rfl) | (rfl | rfl) | rfl | ⟨q1, q2⟩ | rfl | rfl | rfl | rfl | rfl | rfl | rfl | rfl | rfl | rfl | rfl
  · rcases (show op = 1 ∨ op = 2 ∨ op = 3 ∨ op = 4 ∨ op = 5 ∨ op = 6 ∨ op = 7 ∨ op = 8 ∨ op = 9 ∨ op = 10 ∨ op = 11 ∨ op = 12 by omega) with rfl | rfl | rfl | rfl | rfl | rfl | rfl | rfl | rfl | rfl | rfl | rfl <;> exact ⟨by rfl, fun a w => (show (callFunc 120 a).run Tryz.prog w = .ok (.enter 120 a) w by simp [go_sem])⟩
  · refine ⟨by rfl, fun a w => ?_⟩
    show (callFunc 151 a).run Tryz.prog w = .ok (.enter 151 a) w
    simp [go_sem]
  · refine ⟨by rfl, fun a w => ?_⟩
    show (callFunc 152 a).run Tryz.prog w = .ok (.enter 152 a) w
    simp [go_sem]
  · refine ⟨by rfl, fun a w => ?_⟩
    show (callFunc 153 a).run Tryz.prog w = .ok (.enter 153 a) w
    simp [go_sem]
  · refine ⟨by rfl, fun a w => ?_⟩
    show (callFunc 153 a).run Tryz.prog w = .ok (.enter 153 a) w
    simp [go_sem]
  · refine ⟨by rfl, fun a w => ?_⟩
    show (callFunc 154 a).run Tryz.prog w = .ok (.enter 154 a) w
    simp [go_sem]
  · refine ⟨by rfl, fun a w => ?_⟩
    show (callFunc 154 a).run Tryz.prog w = .ok (.enter 154 a) w
    simp [go_sem]
  · refine ⟨by rfl, fun a w => ?_⟩
    show (callFunc 155 a).run Tryz.prog w = .ok (.enter 155 a) w
    simp [go_sem]
  · rcases (show op = 28 ∨ op = 29 ∨ op = 30 ∨ op = 31 by omega) with rfl | rfl | rfl | rfl <;> exact ⟨by rfl, fun a w => (show (callFunc 156 a).run Tryz.prog w = .ok (.enter 156 a) w by simp [go_sem])⟩
  · refine ⟨by rfl, fun a w => ?_⟩
    show (callFunc 157 a).run Tryz.prog w = .ok (.enter 157 a) w
    simp [go_sem]
  · refine ⟨by rfl, fun a w => ?_⟩
    show (callFunc 158 a).run Tryz.prog w = .ok (.enter 158 a) w
    simp [go_sem]
  · refine ⟨by rfl, fun a w => ?_⟩
    show (callFunc 159 a).run Tryz.prog w = .ok (.enter 159 a) w
    simp [go_sem]
  · refine ⟨by rfl, fun a w => ?_⟩
    show (callFunc 143 a).run Tryz.prog w = .ok (.enter 143 a) w
    simp [go_sem]
  · refine ⟨by rfl, fun a w => ?_⟩
    show (callFunc 144 a).run Tryz.prog w = .ok (.enter 144 a) w
    simp [go_sem]
  · refine ⟨by rfl, fun a w => ?_⟩
    show (callFunc 145 a).run Tryz.prog w = .ok (.enter 145 a) w
    simp [go_sem]
  · refine ⟨by rfl, fun a w => ?_⟩
    show (callFunc 146 a).run Tryz.prog w = .ok (.enter 146 a) w
    simp [go_sem]
  · refine ⟨by rfl, fun a w => ?_⟩
    show (callFunc 147 a).run Tryz.prog w = .ok (.enter 147 a) w
    simp [go_sem]
  · refine ⟨by rfl, fun a w => ?_⟩
    show (callFunc 148 a).run Tryz.prog w = .ok (.enter 148 a) w
    simp [go_sem]
  · refine ⟨by rfl, fun a w => ?_⟩
    show (callFunc 149 a).run Tryz.prog w = .ok (.enter 149 a) w
    simp [go_sem]
  · refine ⟨by rfl, fun a w => ?_⟩
    show (callFunc 150 a).run Tryz.prog w = .ok (.enter 150 a) w
    simp [go_sem]
theorem does_any {base : Nat} {w : World} {B : Nat} {s : Sp} {A : Option Addr} {n c : Nat} {ws : List (Int × Int × Int)} {ac : List (Int × Int × Bool)} {b : Wm.Bs} (f : Fit base w B s A n c ws ac b) : Does (fF s.io) base w B s n (Cm.inst n b s.old.pc s.p s.ins (s.out ws ac)) := by
  have key : ∀ op, s.io = op → Im.form op ≠ 0 → Does (fF op) base w B s n (Cm.inst n b s.old.pc s.p s.ins (s.out ws ac)) := by
    intro op ho h
    rcases op_cases h with hq | rfl | rfl | hq | hq | rfl | hq | rfl | rfl | rfl | rfl | rfl | rfl | rfl | rfl | rfl | rfl | rfl
    · have e : fF op = 120 := by unfold fF; rw [if_neg (by omega), if_neg (by omega), if_neg (by omega), if_neg (by omega), if_neg (by omega), if_neg (by omega), if_neg (by omega), if_neg (by omega), if_neg (by omega), if_neg (by omega), if_neg (by omega), if_neg (by omega), if_neg (by omega), if_neg (by omega), if_neg (by omega), if_neg (by omega), if_neg (by omega)]
      rw [e]
      exact does_compute f (ho ▸ hq)
    · exact does_addi f ho
    · exact does_high f ho
    · have e : fF op = 153 := by unfold fF; rw [if_neg (by omega), if_neg (by omega), if_pos hq]
      rw [e]
      exact does_read f (ho ▸ hq)
    · have e : fF op = 154 := by unfold fF; rw [if_neg (by omega), if_neg (by omega), if_neg (by omega), if_pos hq]
      rw [e]
      exact does_write f (ho ▸ hq)
    · exact does_swap f ho
    · have e : fF op = 156 := by unfold fF; rw [if_neg (by omega), if_neg (by omega), if_neg (by omega), if_neg (by omega), if_neg (by omega), if_pos hq]
      rw [e]
      exact does_branch f (ho ▸ hq)
    · exact does_jal f ho
    · exact does_jalr f ho
    · exact does_ecall f ho
    · exact does_eret f ho
    · exact does_csrr f ho
    · exact does_csrw f ho
    · exact does_flush f ho
    · exact does_wait f ho
    · exact does_in f ho
    · exact does_out f ho
    · exact does_halt f ho
  exact key s.io rfl f.rt.1
end Go.Proofs.YtidhodalnikhlaaGreatDoor
