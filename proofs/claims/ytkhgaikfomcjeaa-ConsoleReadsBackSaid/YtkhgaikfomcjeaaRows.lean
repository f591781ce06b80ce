/-
  No cell of these rows narrows 'for every input' (looked for: loops, veiled, ifaces, maps, wideKeys, modest, calm, conditions, laid).
  DERIVED. THE GIVEN ROWS OF THIS SEAT. 4 by the template 'for every input the law returns true; each argument reads behind the call as it read before'; 0 by the template 'total and deterministic' (their statements: YtkhgaikfomcjeaaTotals.lean).
  GIVEN WITH THE SEED: the statements are not yours to turn. If you find one false, say at which input.
  Laid BY PROGRAM, IN A SANDBOX (cutbox-rows.mjs): the forced cells as the released guide's own fill.sh prints them over the translation eb8f91552bb102ae… (all of the seat's roots in one cut). By AI agents, Wed Nov 11 2026. No macro, syntax, notation, axiom, sorry.
-/
import Derived.Test.YtkhgaikfomcjeaaChecked
import GoSem.Claim
import GoSem.ClaimJoined
import GoSem.ClaimMapViews
import Derived.JoinedTies
import Derived.KernelRfl
namespace Go.Proofs.Ytkhgaikfomcjeaa
/- THE CELL 'sum', in the pinned program and in every row, IS THE sha256 OF THE DUMP (.gsa) THAT YtkhgaikfomcjeaaProg.lean LOADS. Nothing in Lean hashes anything: it is a label: what it is worth is what the hold of that sum in a sandbox is worth. -/
noncomputable def Try.pinned : Pinned := { name := "ytkhgaikfomcjeaa", sum := "eb8f91552bb102aec8782106f77d867bc62f8a830aa5aa4dc4befe0d9ca872d2", checked := Try.checked }
namespace Rows
def none {H : Type} : Left H := { results := [], args := [] }

/-- 'simulacrumlaw15.ConsoleWorksAsSpecified': WHATEVER THE INPUT: true; the input reads as it did. -/
def consoleWorksAsSpecifiedSpec : ChangeSpec := { name := "consoleWorksAsSpecified", fn := fun _ => fun
  | [d1, d2, d3] => { results := [.lit (.bool true)], args := [d1, d2, d3] }
  | _ => none }
def consoleWorksAsSpecifiedRow : OpenClaim := { program := "ytkhgaikfomcjeaa", sum := "eb8f91552bb102aec8782106f77d867bc62f8a830aa5aa4dc4befe0d9ca872d2", func := "simulacrum/simulacrumlaw15.ConsoleWorksAsSpecified", spec := "consoleWorksAsSpecified", unfollowed := true, recurses := true, apart := false }
def ConsoleWorksAsSpecifiedSaid : Prop := consoleWorksAsSpecifiedRow.holds Try.pinned (OpenSpec.ofChange consoleWorksAsSpecifiedSpec)

/-- ITS FALSE NEIGHBOUR: 'it returns false'. Refute it at one input. -/
def consoleWorksAsSpecifiedWrong : ChangeSpec := { name := "consoleWorksAsSpecified", fn := fun _ => fun
  | [d1, d2, d3] => { results := [.lit (.bool false)], args := [d1, d2, d3] }
  | _ => none }
def ConsoleWorksAsSpecifiedWrongFalsely : Prop := consoleWorksAsSpecifiedRow.holds Try.pinned (OpenSpec.ofChange consoleWorksAsSpecifiedWrong)

/-- 'simulacrumlaw15.ConsoleReadsBack': WHATEVER THE INPUT: true; the input reads as it did. -/
def consoleReadsBackSpec : ChangeSpec := { name := "consoleReadsBack", fn := fun _ => fun
  | [d1, d2] => { results := [.lit (.bool true)], args := [d1, d2] }
  | _ => none }
def consoleReadsBackRow : OpenClaim := { program := "ytkhgaikfomcjeaa", sum := "eb8f91552bb102aec8782106f77d867bc62f8a830aa5aa4dc4befe0d9ca872d2", func := "simulacrum/simulacrumlaw15.ConsoleReadsBack", spec := "consoleReadsBack", unfollowed := true, recurses := true, apart := false }
def ConsoleReadsBackSaid : Prop := consoleReadsBackRow.holds Try.pinned (OpenSpec.ofChange consoleReadsBackSpec)

/-- ITS FALSE NEIGHBOUR: 'it returns false'. Refute it at one input. -/
def consoleReadsBackWrong : ChangeSpec := { name := "consoleReadsBack", fn := fun _ => fun
  | [d1, d2] => { results := [.lit (.bool false)], args := [d1, d2] }
  | _ => none }
def ConsoleReadsBackWrongFalsely : Prop := consoleReadsBackRow.holds Try.pinned (OpenSpec.ofChange consoleReadsBackWrong)

/-- 'simulacrumlaw15.ConsoleKeepsOrder': WHATEVER THE INPUT: true; the input reads as it did. -/
def consoleKeepsOrderSpec : ChangeSpec := { name := "consoleKeepsOrder", fn := fun _ => fun
  | [d] => { results := [.lit (.bool true)], args := [d] }
  | _ => none }
def consoleKeepsOrderRow : OpenClaim := { program := "ytkhgaikfomcjeaa", sum := "eb8f91552bb102aec8782106f77d867bc62f8a830aa5aa4dc4befe0d9ca872d2", func := "simulacrum/simulacrumlaw15.ConsoleKeepsOrder", spec := "consoleKeepsOrder", unfollowed := true, recurses := true, apart := false }
def ConsoleKeepsOrderSaid : Prop := consoleKeepsOrderRow.holds Try.pinned (OpenSpec.ofChange consoleKeepsOrderSpec)

/-- ITS FALSE NEIGHBOUR: 'it returns false'. Refute it at one input. -/
def consoleKeepsOrderWrong : ChangeSpec := { name := "consoleKeepsOrder", fn := fun _ => fun
  | [d] => { results := [.lit (.bool false)], args := [d] }
  | _ => none }
def ConsoleKeepsOrderWrongFalsely : Prop := consoleKeepsOrderRow.holds Try.pinned (OpenSpec.ofChange consoleKeepsOrderWrong)

/-- 'simulacrumlaw15.ConsoleHasThreePorts': WHATEVER THE INPUT: true; the input reads as it did. -/
def consoleHasThreePortsSpec : ChangeSpec := { name := "consoleHasThreePorts", fn := fun _ => fun
  | [d1, d2, d3] => { results := [.lit (.bool true)], args := [d1, d2, d3] }
  | _ => none }
def consoleHasThreePortsRow : OpenClaim := { program := "ytkhgaikfomcjeaa", sum := "eb8f91552bb102aec8782106f77d867bc62f8a830aa5aa4dc4befe0d9ca872d2", func := "simulacrum/simulacrumlaw15.ConsoleHasThreePorts", spec := "consoleHasThreePorts", unfollowed := true, recurses := true, apart := false }
def ConsoleHasThreePortsSaid : Prop := consoleHasThreePortsRow.holds Try.pinned (OpenSpec.ofChange consoleHasThreePortsSpec)

/-- ITS FALSE NEIGHBOUR: 'it returns false'. Refute it at one input. -/
def consoleHasThreePortsWrong : ChangeSpec := { name := "consoleHasThreePorts", fn := fun _ => fun
  | [d1, d2, d3] => { results := [.lit (.bool false)], args := [d1, d2, d3] }
  | _ => none }
def ConsoleHasThreePortsWrongFalsely : Prop := consoleHasThreePortsRow.holds Try.pinned (OpenSpec.ofChange consoleHasThreePortsWrong)

/- THE SECOND FORM. 'bulk': how many values and letters a reading holds, each counted each time it is reached (what is shared counts as often as it is met; a slice's spare places count too). A statement '..UptoSaid' is the law's where the arguments, and the package variables that the reading takes, are together of bulk at most 1048576: NARROWER than '..Said'. Prove '..Said' where nothing that the law and all that it calls make is longer than what came in: it says more and counts as full. Else prove '..UptoSaid'. A law counts once. -/
mutual
def uptoBulk {H : Type} : DataW H → Nat
  | .lit (.string bytes) => bytes.length + 1
  | .lit _ => 1
  | .nil => 1
  | .ptr d => uptoBulk d + 1
  | .slice elems spare => uptoBulkAll elems + uptoBulkAll spare + 1
  | .agg parts => uptoBulkAll parts + 1
  | .iface _ d => uptoBulk d + 1
  | .map entries => uptoBulkEntries entries + 1
  | .held _ => 1
def uptoBulkAll {H : Type} : List (DataW H) → Nat
  | [] => 0
  | d :: r => uptoBulk d + uptoBulkAll r
def uptoBulkEntries {H : Type} : List (Lit × DataW H) → Nat
  | [] => 0
  | x :: r => uptoBulkEntry x + uptoBulkEntries r
def uptoBulkEntry {H : Type} : Lit × DataW H → Nat
  | (.string bytes, d) => bytes.length + uptoBulk d + 1
  | (_, d) => uptoBulk d + 1
 end
def uptoSmall : (H : Type) → List (DataW H) → Bool := fun _ ds => decide (uptoBulkAll ds ≤ 1048576)
def OpenSpec.upto (s : _root_.Go.ChangeSpec) : _root_.Go.OpenSpec := { _root_.Go.OpenSpec.ofChange s with cond := some uptoSmall }

/-- 'simulacrumlaw15.ConsoleWorksAsSpecified', WHERE WHAT IT READS IS OF BULK AT MOST 1048576: true; the input reads as it did. -/
def consoleWorksAsSpecifiedUptoRow : OpenClaim := { program := "ytkhgaikfomcjeaa", sum := "eb8f91552bb102aec8782106f77d867bc62f8a830aa5aa4dc4befe0d9ca872d2", func := "simulacrum/simulacrumlaw15.ConsoleWorksAsSpecified", spec := "consoleWorksAsSpecified", unfollowed := true, recurses := true, apart := false, narrowed := true }
def ConsoleWorksAsSpecifiedUptoSaid : Prop := consoleWorksAsSpecifiedUptoRow.holds Try.pinned (OpenSpec.upto consoleWorksAsSpecifiedSpec)

/-- 'simulacrumlaw15.ConsoleReadsBack', WHERE WHAT IT READS IS OF BULK AT MOST 1048576: true; the input reads as it did. -/
def consoleReadsBackUptoRow : OpenClaim := { program := "ytkhgaikfomcjeaa", sum := "eb8f91552bb102aec8782106f77d867bc62f8a830aa5aa4dc4befe0d9ca872d2", func := "simulacrum/simulacrumlaw15.ConsoleReadsBack", spec := "consoleReadsBack", unfollowed := true, recurses := true, apart := false, narrowed := true }
def ConsoleReadsBackUptoSaid : Prop := consoleReadsBackUptoRow.holds Try.pinned (OpenSpec.upto consoleReadsBackSpec)

/-- 'simulacrumlaw15.ConsoleKeepsOrder', WHERE WHAT IT READS IS OF BULK AT MOST 1048576: true; the input reads as it did. -/
def consoleKeepsOrderUptoRow : OpenClaim := { program := "ytkhgaikfomcjeaa", sum := "eb8f91552bb102aec8782106f77d867bc62f8a830aa5aa4dc4befe0d9ca872d2", func := "simulacrum/simulacrumlaw15.ConsoleKeepsOrder", spec := "consoleKeepsOrder", unfollowed := true, recurses := true, apart := false, narrowed := true }
def ConsoleKeepsOrderUptoSaid : Prop := consoleKeepsOrderUptoRow.holds Try.pinned (OpenSpec.upto consoleKeepsOrderSpec)

/-- 'simulacrumlaw15.ConsoleHasThreePorts', WHERE WHAT IT READS IS OF BULK AT MOST 1048576: true; the input reads as it did. -/
def consoleHasThreePortsUptoRow : OpenClaim := { program := "ytkhgaikfomcjeaa", sum := "eb8f91552bb102aec8782106f77d867bc62f8a830aa5aa4dc4befe0d9ca872d2", func := "simulacrum/simulacrumlaw15.ConsoleHasThreePorts", spec := "consoleHasThreePorts", unfollowed := true, recurses := true, apart := false, narrowed := true }
def ConsoleHasThreePortsUptoSaid : Prop := consoleHasThreePortsUptoRow.holds Try.pinned (OpenSpec.upto consoleHasThreePortsSpec)

end Rows
end Go.Proofs.Ytkhgaikfomcjeaa
