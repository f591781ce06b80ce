/-
  THE WALK OF the reference's Read.
-/
import Derived.Test.YtidhodalnikhlaaGreatDoorVd
import Derived.ChangeKeysEq
namespace Go.Proofs.YtidhodalnikhlaaGreatDoor
open Go.RowKit Go.ChangeShapes Go.WideShapes Go.ChangeAt

end Go.Proofs.YtidhodalnikhlaaGreatDoor

/-
  THE WALK OF the reference's Write.
-/
namespace Go.Proofs.YtidhodalnikhlaaGreatDoor
open Go.RowKit Go.ChangeShapes Go.WideShapes Go.ChangeAt

end Go.Proofs.YtidhodalnikhlaaGreatDoor

/-
  THE WALK OF the reference's Apply.
-/
namespace Go.Proofs.YtidhodalnikhlaaGreatDoor
open Go.RowKit Go.ChangeShapes Go.WideShapes Go.ChangeAt

set_option maxRecDepth 100000 in
theorem yieldsIf_load_addr {P : Program} {ops : Array Oper} {S : World → Prop} {op : Oper} {a : Act} (hw : Region.wanted op (yielded ops a.tmps) = true) (ty : TypeId) (x : Operand) (ho : op.op = .load ty x)
    (ad : Addr) (hx : a.eval x = .pointer (some ad)) (cs : List Value) (d : TypeDesc) (hS : ∀ w, S w → ∀ j v, cs[j]? = some v → w.cell? (ad.add j) = some v)
    (hu : P.underlying ty = some d) (hd : d.isRow = true) (hi : (P.info? ty).map (·.size) = some cs.length) : YieldsIf P ops S op (.agg cs.toArray) a :=
  .inl ⟨hw, fun w hw' => by
    unfold execOp
    simp only [ho, hx, Sem.run_bind, Sem.run_pure, run_loadAt_addr (P := P) w ad ty cs d (hS w hw') hu hd hi, Result.andThen_ok]⟩
end Go.Proofs.YtidhodalnikhlaaGreatDoor

/-
  THE WALK OF Diff.
-/
namespace Go.Proofs.YtidhodalnikhlaaGreatDoor
open Go.RowKit Go.ChangeShapes Go.WideShapes Go.ChangeAt

set_option maxRecDepth 100000 in
theorem int_info : (Tryz.prog.info? 3).map (fun i => (i.zero, i.size, i.bytes)) = some (some (.int .i64 0), 1, 8) := by kernel_rfl
set_option maxRecDepth 100000 in
/-- Numbers as cells. -/
def Ni (l : List Nat) : List Value := l.map fun i : Nat => Value.int .i64 (i : Int)
set_option maxRecDepth 100000 in
/-- What hands back a list of numbers. -/
def GotI (l : List Nat) (w : World) (e : Ending) (w' : World) : Prop := ∃ A c, e = .returned (.slice A l.length c) ∧ l.length ≤ c ∧ c ≤ maxLen ∧ Sl w' 1 A l.length (Ni l) ∧ Later w w'
end Go.Proofs.YtidhodalnikhlaaGreatDoor

/-
  THE WALKS OF the reference's Diff, Same, SameInts.
-/
namespace Go.Proofs.YtidhodalnikhlaaGreatDoor
open Go.RowKit Go.ChangeShapes Go.WideShapes Go.ChangeAt

end Go.Proofs.YtidhodalnikhlaaGreatDoor

/-
  THE WALK OF the reference's SameInts.
-/
namespace Go.Proofs.YtidhodalnikhlaaGreatDoor
open Go.RowKit Go.ChangeShapes Go.WideShapes Go.ChangeAt

end Go.Proofs.YtidhodalnikhlaaGreatDoor
