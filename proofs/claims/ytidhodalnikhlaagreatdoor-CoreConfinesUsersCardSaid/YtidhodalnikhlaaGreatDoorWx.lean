/-
  PLAIN MATHEMATICS: a step of a processor without translation at an instruction that computes.
-/
import Derived.Test.YtidhodalnikhlaaGreatDoorWp
namespace Go.Proofs.YtidhodalnikhlaaGreatDoor
open Go.RowKit Go.ChangeShapes Go.WideShapes Go.ChangeAt

theorem eff_reg (s : Sp) {k : Nat} (h : k < 16) : s.eff[2 + k]? = some (.int .u32 (s.ec.reg k)) := by
  rcases (show k = 0 ∨ k = 1 ∨ k = 2 ∨ k = 3 ∨ k = 4 ∨ k = 5 ∨ k = 6 ∨ k = 7 ∨ k = 8 ∨ k = 9 ∨ k = 10 ∨ k = 11 ∨ k = 12 ∨ k = 13 ∨ k = 14 ∨ k = 15 by omega) with rfl | rfl | rfl | rfl | rfl | rfl | rfl | rfl | rfl | rfl | rfl | rfl | rfl | rfl | rfl | rfl <;> rfl
/-- An instruction that computes. -/
def Comp (i : Im.I) : Prop := (1 ≤ i.op ∧ i.op ≤ 12) ∨ i.op = 16
/-- What it computes. -/
def compV (x : Cpu) (i : Im.I) : Int := if i.op = 16 then (x.rg i.b + i.imm) % 4294967296 else Al.I i.op (x.rg i.b) (x.rg i.c)
end Go.Proofs.YtidhodalnikhlaaGreatDoor
