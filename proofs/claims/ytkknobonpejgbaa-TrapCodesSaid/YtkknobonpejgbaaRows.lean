/-
  No cell of these rows narrows 'for every input' (looked for: loops, veiled, ifaces, maps, wideKeys, modest, calm, conditions, laid).
  DERIVED. THE GIVEN ROWS OF THIS SEAT. 7 by the template 'for every input the law returns true; each argument reads behind the call as it read before'; 0 by the template 'total and deterministic' (their statements: YtkknobonpejgbaaTotals.lean).
  GIVEN WITH THE SEED: the statements are not yours to turn. If you find one false, say at which input.
  Laid BY PROGRAM, IN A SANDBOX (cutbox-rows.mjs): the forced cells as the released guide's own fill.sh prints them over the translation efcf5ba2ec370eff… (all of the seat's roots in one cut). By AI agents, Wed Nov 11 2026. No macro, syntax, notation, axiom, sorry.
-/
import Derived.Test.YtkknobonpejgbaaChecked
import GoSem.Claim
import GoSem.ClaimJoined
import GoSem.ClaimMapViews
import Derived.JoinedTies
import Derived.KernelRfl
namespace Go.Proofs.Ytkknobonpejgbaa
/- THE CELL 'sum', in the pinned program and in every row, IS THE sha256 OF THE DUMP (.gsa) THAT YtkknobonpejgbaaProg.lean LOADS. Nothing in Lean hashes anything: it is a label: what it is worth is what the hold of that sum in a sandbox is worth. -/
noncomputable def Try.pinned : Pinned := { name := "ytkknobonpejgbaa", sum := "efcf5ba2ec370eff18146718a8cda9b7f0bafd632f224e43720bea41812c91ff", checked := Try.checked }
namespace Rows
def none {H : Type} : Left H := { results := [], args := [] }

/-- 'simulacrumlaw11.TrapTurnsAsSpecified': WHATEVER THE INPUT: true; the input reads as it did. -/
def trapTurnsAsSpecifiedSpec : ChangeSpec := { name := "trapTurnsAsSpecified", fn := fun _ => fun
  | [d1, d2, d3, d4, d5] => { results := [.lit (.bool true)], args := [d1, d2, d3, d4, d5] }
  | _ => none }
def trapTurnsAsSpecifiedRow : OpenClaim := { program := "ytkknobonpejgbaa", sum := "efcf5ba2ec370eff18146718a8cda9b7f0bafd632f224e43720bea41812c91ff", func := "simulacrum/simulacrumlaw11.TrapTurnsAsSpecified", spec := "trapTurnsAsSpecified", apart := false }
def TrapTurnsAsSpecifiedSaid : Prop := trapTurnsAsSpecifiedRow.holds Try.pinned (OpenSpec.ofChange trapTurnsAsSpecifiedSpec)

/-- ITS FALSE NEIGHBOUR: 'it returns false'. Refute it at one input. -/
def trapTurnsAsSpecifiedWrong : ChangeSpec := { name := "trapTurnsAsSpecified", fn := fun _ => fun
  | [d1, d2, d3, d4, d5] => { results := [.lit (.bool false)], args := [d1, d2, d3, d4, d5] }
  | _ => none }
def TrapTurnsAsSpecifiedWrongFalsely : Prop := trapTurnsAsSpecifiedRow.holds Try.pinned (OpenSpec.ofChange trapTurnsAsSpecifiedWrong)

/-- 'simulacrumlaw11.TrapRegistersAsSpecified': WHATEVER THE INPUT: true; the input reads as it did. -/
def trapRegistersAsSpecifiedSpec : ChangeSpec := { name := "trapRegistersAsSpecified", fn := fun _ => fun
  | [d1, d2, d3] => { results := [.lit (.bool true)], args := [d1, d2, d3] }
  | _ => none }
def trapRegistersAsSpecifiedRow : OpenClaim := { program := "ytkknobonpejgbaa", sum := "efcf5ba2ec370eff18146718a8cda9b7f0bafd632f224e43720bea41812c91ff", func := "simulacrum/simulacrumlaw11.TrapRegistersAsSpecified", spec := "trapRegistersAsSpecified", apart := false }
def TrapRegistersAsSpecifiedSaid : Prop := trapRegistersAsSpecifiedRow.holds Try.pinned (OpenSpec.ofChange trapRegistersAsSpecifiedSpec)

/-- ITS FALSE NEIGHBOUR: 'it returns false'. Refute it at one input. -/
def trapRegistersAsSpecifiedWrong : ChangeSpec := { name := "trapRegistersAsSpecified", fn := fun _ => fun
  | [d1, d2, d3] => { results := [.lit (.bool false)], args := [d1, d2, d3] }
  | _ => none }
def TrapRegistersAsSpecifiedWrongFalsely : Prop := trapRegistersAsSpecifiedRow.holds Try.pinned (OpenSpec.ofChange trapRegistersAsSpecifiedWrong)

/-- 'simulacrumlaw11.TrapCodes': WHATEVER THE INPUT: true; the input reads as it did. -/
def trapCodesSpec : ChangeSpec := { name := "trapCodes", fn := fun _ => fun
  | [d1, d2] => { results := [.lit (.bool true)], args := [d1, d2] }
  | _ => none }
def trapCodesRow : OpenClaim := { program := "ytkknobonpejgbaa", sum := "efcf5ba2ec370eff18146718a8cda9b7f0bafd632f224e43720bea41812c91ff", func := "simulacrum/simulacrumlaw11.TrapCodes", spec := "trapCodes", unfollowed := true, recurses := true, apart := false }
def TrapCodesSaid : Prop := trapCodesRow.holds Try.pinned (OpenSpec.ofChange trapCodesSpec)

/-- ITS FALSE NEIGHBOUR: 'it returns false'. Refute it at one input. -/
def trapCodesWrong : ChangeSpec := { name := "trapCodes", fn := fun _ => fun
  | [d1, d2] => { results := [.lit (.bool false)], args := [d1, d2] }
  | _ => none }
def TrapCodesWrongFalsely : Prop := trapCodesRow.holds Try.pinned (OpenSpec.ofChange trapCodesWrong)

/-- 'simulacrumlaw11.TrapReturns': WHATEVER THE INPUT: true; the input reads as it did. -/
def trapReturnsSpec : ChangeSpec := { name := "trapReturns", fn := fun _ => fun
  | [d1, d2, d3, d4] => { results := [.lit (.bool true)], args := [d1, d2, d3, d4] }
  | _ => none }
def trapReturnsRow : OpenClaim := { program := "ytkknobonpejgbaa", sum := "efcf5ba2ec370eff18146718a8cda9b7f0bafd632f224e43720bea41812c91ff", func := "simulacrum/simulacrumlaw11.TrapReturns", spec := "trapReturns", apart := false }
def TrapReturnsSaid : Prop := trapReturnsRow.holds Try.pinned (OpenSpec.ofChange trapReturnsSpec)

/-- ITS FALSE NEIGHBOUR: 'it returns false'. Refute it at one input. -/
def trapReturnsWrong : ChangeSpec := { name := "trapReturns", fn := fun _ => fun
  | [d1, d2, d3, d4] => { results := [.lit (.bool false)], args := [d1, d2, d3, d4] }
  | _ => none }
def TrapReturnsWrongFalsely : Prop := trapReturnsRow.holds Try.pinned (OpenSpec.ofChange trapReturnsWrong)

/-- 'simulacrumlaw11.TrapNests': WHATEVER THE INPUT: true; the input reads as it did. -/
def trapNestsSpec : ChangeSpec := { name := "trapNests", fn := fun _ => fun
  | [d1, d2, d3, d4] => { results := [.lit (.bool true)], args := [d1, d2, d3, d4] }
  | _ => none }
def trapNestsRow : OpenClaim := { program := "ytkknobonpejgbaa", sum := "efcf5ba2ec370eff18146718a8cda9b7f0bafd632f224e43720bea41812c91ff", func := "simulacrum/simulacrumlaw11.TrapNests", spec := "trapNests", apart := false }
def TrapNestsSaid : Prop := trapNestsRow.holds Try.pinned (OpenSpec.ofChange trapNestsSpec)

/-- ITS FALSE NEIGHBOUR: 'it returns false'. Refute it at one input. -/
def trapNestsWrong : ChangeSpec := { name := "trapNests", fn := fun _ => fun
  | [d1, d2, d3, d4] => { results := [.lit (.bool false)], args := [d1, d2, d3, d4] }
  | _ => none }
def TrapNestsWrongFalsely : Prop := trapNestsRow.holds Try.pinned (OpenSpec.ofChange trapNestsWrong)

/-- 'simulacrumlaw11.TrapInterruptsInOrder': WHATEVER THE INPUT: true; the input reads as it did. -/
def trapInterruptsInOrderSpec : ChangeSpec := { name := "trapInterruptsInOrder", fn := fun _ => fun
  | [d1, d2, d3] => { results := [.lit (.bool true)], args := [d1, d2, d3] }
  | _ => none }
def trapInterruptsInOrderRow : OpenClaim := { program := "ytkknobonpejgbaa", sum := "efcf5ba2ec370eff18146718a8cda9b7f0bafd632f224e43720bea41812c91ff", func := "simulacrum/simulacrumlaw11.TrapInterruptsInOrder", spec := "trapInterruptsInOrder", apart := false }
def TrapInterruptsInOrderSaid : Prop := trapInterruptsInOrderRow.holds Try.pinned (OpenSpec.ofChange trapInterruptsInOrderSpec)

/-- ITS FALSE NEIGHBOUR: 'it returns false'. Refute it at one input. -/
def trapInterruptsInOrderWrong : ChangeSpec := { name := "trapInterruptsInOrder", fn := fun _ => fun
  | [d1, d2, d3] => { results := [.lit (.bool false)], args := [d1, d2, d3] }
  | _ => none }
def TrapInterruptsInOrderWrongFalsely : Prop := trapInterruptsInOrderRow.holds Try.pinned (OpenSpec.ofChange trapInterruptsInOrderWrong)

/-- 'simulacrumlaw11.TrapWritesStay': WHATEVER THE INPUT: true; the input reads as it did. -/
def trapWritesStaySpec : ChangeSpec := { name := "trapWritesStay", fn := fun _ => fun
  | [d1, d2, d3] => { results := [.lit (.bool true)], args := [d1, d2, d3] }
  | _ => none }
def trapWritesStayRow : OpenClaim := { program := "ytkknobonpejgbaa", sum := "efcf5ba2ec370eff18146718a8cda9b7f0bafd632f224e43720bea41812c91ff", func := "simulacrum/simulacrumlaw11.TrapWritesStay", spec := "trapWritesStay", apart := false }
def TrapWritesStaySaid : Prop := trapWritesStayRow.holds Try.pinned (OpenSpec.ofChange trapWritesStaySpec)

/-- ITS FALSE NEIGHBOUR: 'it returns false'. Refute it at one input. -/
def trapWritesStayWrong : ChangeSpec := { name := "trapWritesStay", fn := fun _ => fun
  | [d1, d2, d3] => { results := [.lit (.bool false)], args := [d1, d2, d3] }
  | _ => none }
def TrapWritesStayWrongFalsely : Prop := trapWritesStayRow.holds Try.pinned (OpenSpec.ofChange trapWritesStayWrong)

/- THE SECOND FORM. 'bulk': how many values and letters a reading holds, each counted each time it is reached (what is shared counts as often as it is met; a slice's spare places count too). A statement '..UptoSaid' is the law's where the arguments, and the package variables that the reading takes, are together of bulk at most 1048576: NARROWER than '..Said'. Prove '..Said' where nothing that the law and all that it calls make is longer than what came in: it says more and counts as full. Else prove '..UptoSaid'. A law counts once. -/
mutual
def uptoBulk {H : Type} : DataW H → Nat
  | .lit (.string bytes) => bytes.length + 1
  | .lit _ => 1
  | .nil => 1
  | .ptr d => uptoBulk d + 1
  | .slice elems spare => uptoBulkAll elems + uptoBulkAll spare + 1
  | .agg parts => uptoBulkAll parts + 1
  | .iface _ d => uptoBulk d + 1
  | .map entries => uptoBulkEntries entries + 1
  | .held _ => 1
def uptoBulkAll {H : Type} : List (DataW H) → Nat
  | [] => 0
  | d :: r => uptoBulk d + uptoBulkAll r
def uptoBulkEntries {H : Type} : List (Lit × DataW H) → Nat
  | [] => 0
  | x :: r => uptoBulkEntry x + uptoBulkEntries r
def uptoBulkEntry {H : Type} : Lit × DataW H → Nat
  | (.string bytes, d) => bytes.length + uptoBulk d + 1
  | (_, d) => uptoBulk d + 1
 end
def uptoSmall : (H : Type) → List (DataW H) → Bool := fun _ ds => decide (uptoBulkAll ds ≤ 1048576)
def OpenSpec.upto (s : _root_.Go.ChangeSpec) : _root_.Go.OpenSpec := { _root_.Go.OpenSpec.ofChange s with cond := some uptoSmall }

/-- 'simulacrumlaw11.TrapTurnsAsSpecified', WHERE WHAT IT READS IS OF BULK AT MOST 1048576: true; the input reads as it did. -/
def trapTurnsAsSpecifiedUptoRow : OpenClaim := { program := "ytkknobonpejgbaa", sum := "efcf5ba2ec370eff18146718a8cda9b7f0bafd632f224e43720bea41812c91ff", func := "simulacrum/simulacrumlaw11.TrapTurnsAsSpecified", spec := "trapTurnsAsSpecified", apart := false, narrowed := true }
def TrapTurnsAsSpecifiedUptoSaid : Prop := trapTurnsAsSpecifiedUptoRow.holds Try.pinned (OpenSpec.upto trapTurnsAsSpecifiedSpec)

/-- 'simulacrumlaw11.TrapRegistersAsSpecified', WHERE WHAT IT READS IS OF BULK AT MOST 1048576: true; the input reads as it did. -/
def trapRegistersAsSpecifiedUptoRow : OpenClaim := { program := "ytkknobonpejgbaa", sum := "efcf5ba2ec370eff18146718a8cda9b7f0bafd632f224e43720bea41812c91ff", func := "simulacrum/simulacrumlaw11.TrapRegistersAsSpecified", spec := "trapRegistersAsSpecified", apart := false, narrowed := true }
def TrapRegistersAsSpecifiedUptoSaid : Prop := trapRegistersAsSpecifiedUptoRow.holds Try.pinned (OpenSpec.upto trapRegistersAsSpecifiedSpec)

/-- 'simulacrumlaw11.TrapCodes', WHERE WHAT IT READS IS OF BULK AT MOST 1048576: true; the input reads as it did. -/
def trapCodesUptoRow : OpenClaim := { program := "ytkknobonpejgbaa", sum := "efcf5ba2ec370eff18146718a8cda9b7f0bafd632f224e43720bea41812c91ff", func := "simulacrum/simulacrumlaw11.TrapCodes", spec := "trapCodes", unfollowed := true, recurses := true, apart := false, narrowed := true }
def TrapCodesUptoSaid : Prop := trapCodesUptoRow.holds Try.pinned (OpenSpec.upto trapCodesSpec)

/-- 'simulacrumlaw11.TrapReturns', WHERE WHAT IT READS IS OF BULK AT MOST 1048576: true; the input reads as it did. -/
def trapReturnsUptoRow : OpenClaim := { program := "ytkknobonpejgbaa", sum := "efcf5ba2ec370eff18146718a8cda9b7f0bafd632f224e43720bea41812c91ff", func := "simulacrum/simulacrumlaw11.TrapReturns", spec := "trapReturns", apart := false, narrowed := true }
def TrapReturnsUptoSaid : Prop := trapReturnsUptoRow.holds Try.pinned (OpenSpec.upto trapReturnsSpec)

/-- 'simulacrumlaw11.TrapNests', WHERE WHAT IT READS IS OF BULK AT MOST 1048576: true; the input reads as it did. -/
def trapNestsUptoRow : OpenClaim := { program := "ytkknobonpejgbaa", sum := "efcf5ba2ec370eff18146718a8cda9b7f0bafd632f224e43720bea41812c91ff", func := "simulacrum/simulacrumlaw11.TrapNests", spec := "trapNests", apart := false, narrowed := true }
def TrapNestsUptoSaid : Prop := trapNestsUptoRow.holds Try.pinned (OpenSpec.upto trapNestsSpec)

/-- 'simulacrumlaw11.TrapInterruptsInOrder', WHERE WHAT IT READS IS OF BULK AT MOST 1048576: true; the input reads as it did. -/
def trapInterruptsInOrderUptoRow : OpenClaim := { program := "ytkknobonpejgbaa", sum := "efcf5ba2ec370eff18146718a8cda9b7f0bafd632f224e43720bea41812c91ff", func := "simulacrum/simulacrumlaw11.TrapInterruptsInOrder", spec := "trapInterruptsInOrder", apart := false, narrowed := true }
def TrapInterruptsInOrderUptoSaid : Prop := trapInterruptsInOrderUptoRow.holds Try.pinned (OpenSpec.upto trapInterruptsInOrderSpec)

/-- 'simulacrumlaw11.TrapWritesStay', WHERE WHAT IT READS IS OF BULK AT MOST 1048576: true; the input reads as it did. -/
def trapWritesStayUptoRow : OpenClaim := { program := "ytkknobonpejgbaa", sum := "efcf5ba2ec370eff18146718a8cda9b7f0bafd632f224e43720bea41812c91ff", func := "simulacrum/simulacrumlaw11.TrapWritesStay", spec := "trapWritesStay", apart := false, narrowed := true }
def TrapWritesStayUptoSaid : Prop := trapWritesStayUptoRow.holds Try.pinned (OpenSpec.upto trapWritesStaySpec)

end Rows
end Go.Proofs.Ytkknobonpejgbaa
