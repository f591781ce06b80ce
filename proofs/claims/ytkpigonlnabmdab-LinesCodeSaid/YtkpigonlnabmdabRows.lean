/-
  No cell of these rows narrows 'for every input' (looked for: loops, veiled, ifaces, maps, wideKeys, modest, calm, conditions, laid).
  DERIVED. THE GIVEN ROWS OF THIS SEAT. 5 by the template 'for every input the law returns true; each argument reads behind the call as it read before'; 0 by the template 'total and deterministic' (their statements: YtkpigonlnabmdabTotals.lean).
  GIVEN WITH THE SEED: the statements are not yours to turn. If you find one false, say at which input.
  Laid BY PROGRAM, IN A SANDBOX (cutbox-rows.mjs): the forced cells as the released guide's own fill.sh prints them over the translation f817ecc61026c7e1… (all of the seat's roots in one cut). By AI agents, Wed Nov 11 2026. No macro, syntax, notation, axiom, sorry.
-/
import Derived.Test.YtkpigonlnabmdabChecked
import GoSem.Claim
import GoSem.ClaimJoined
import GoSem.ClaimMapViews
import Derived.JoinedTies
import Derived.KernelRfl
namespace Go.Proofs.Ytkpigonlnabmdab
/- THE CELL 'sum', in the pinned program and in every row, IS THE sha256 OF THE DUMP (.gsa) THAT YtkpigonlnabmdabProg.lean LOADS. Nothing in Lean hashes anything: it is a label: what it is worth is what the hold of that sum in a sandbox is worth. -/
noncomputable def Try.pinned : Pinned := { name := "ytkpigonlnabmdab", sum := "f817ecc61026c7e183f4aa33e99958e7fe8812ba0f4e6ac949f80e5382f575b8", checked := Try.checked }
namespace Rows
def none {H : Type} : Left H := { results := [], args := [] }

/-- 'simulacrumlaw13.LinesWorkAsSpecified': WHATEVER THE INPUT: true; the input reads as it did. -/
def linesWorkAsSpecifiedSpec : ChangeSpec := { name := "linesWorkAsSpecified", fn := fun _ => fun
  | [d1, d2, d3, d4, d5] => { results := [.lit (.bool true)], args := [d1, d2, d3, d4, d5] }
  | _ => none }
def linesWorkAsSpecifiedRow : OpenClaim := { program := "ytkpigonlnabmdab", sum := "f817ecc61026c7e183f4aa33e99958e7fe8812ba0f4e6ac949f80e5382f575b8", func := "simulacrum/simulacrumlaw13.LinesWorkAsSpecified", spec := "linesWorkAsSpecified", unfollowed := true, recurses := true, apart := false }
def LinesWorkAsSpecifiedSaid : Prop := linesWorkAsSpecifiedRow.holds Try.pinned (OpenSpec.ofChange linesWorkAsSpecifiedSpec)

/-- ITS FALSE NEIGHBOUR: 'it returns false'. Refute it at one input. -/
def linesWorkAsSpecifiedWrong : ChangeSpec := { name := "linesWorkAsSpecified", fn := fun _ => fun
  | [d1, d2, d3, d4, d5] => { results := [.lit (.bool false)], args := [d1, d2, d3, d4, d5] }
  | _ => none }
def LinesWorkAsSpecifiedWrongFalsely : Prop := linesWorkAsSpecifiedRow.holds Try.pinned (OpenSpec.ofChange linesWorkAsSpecifiedWrong)

/-- 'simulacrumlaw13.LinesCode': WHATEVER THE INPUT: true; the input reads as it did. -/
def linesCodeSpec : ChangeSpec := { name := "linesCode", fn := fun _ => fun
  | [d1, d2] => { results := [.lit (.bool true)], args := [d1, d2] }
  | _ => none }
def linesCodeRow : OpenClaim := { program := "ytkpigonlnabmdab", sum := "f817ecc61026c7e183f4aa33e99958e7fe8812ba0f4e6ac949f80e5382f575b8", func := "simulacrum/simulacrumlaw13.LinesCode", spec := "linesCode", unfollowed := true, recurses := true, apart := false }
def LinesCodeSaid : Prop := linesCodeRow.holds Try.pinned (OpenSpec.ofChange linesCodeSpec)

/-- ITS FALSE NEIGHBOUR: 'it returns false'. Refute it at one input. -/
def linesCodeWrong : ChangeSpec := { name := "linesCode", fn := fun _ => fun
  | [d1, d2] => { results := [.lit (.bool false)], args := [d1, d2] }
  | _ => none }
def LinesCodeWrongFalsely : Prop := linesCodeRow.holds Try.pinned (OpenSpec.ofChange linesCodeWrong)

/-- 'simulacrumlaw13.LinesStayRaised': WHATEVER THE INPUT: true; the input reads as it did. -/
def linesStayRaisedSpec : ChangeSpec := { name := "linesStayRaised", fn := fun _ => fun
  | [d1, d2] => { results := [.lit (.bool true)], args := [d1, d2] }
  | _ => none }
def linesStayRaisedRow : OpenClaim := { program := "ytkpigonlnabmdab", sum := "f817ecc61026c7e183f4aa33e99958e7fe8812ba0f4e6ac949f80e5382f575b8", func := "simulacrum/simulacrumlaw13.LinesStayRaised", spec := "linesStayRaised", unfollowed := true, recurses := true, apart := false }
def LinesStayRaisedSaid : Prop := linesStayRaisedRow.holds Try.pinned (OpenSpec.ofChange linesStayRaisedSpec)

/-- ITS FALSE NEIGHBOUR: 'it returns false'. Refute it at one input. -/
def linesStayRaisedWrong : ChangeSpec := { name := "linesStayRaised", fn := fun _ => fun
  | [d1, d2] => { results := [.lit (.bool false)], args := [d1, d2] }
  | _ => none }
def LinesStayRaisedWrongFalsely : Prop := linesStayRaisedRow.holds Try.pinned (OpenSpec.ofChange linesStayRaisedWrong)

/-- 'simulacrumlaw13.LinesAreApart': WHATEVER THE INPUT: true; the input reads as it did. -/
def linesAreApartSpec : ChangeSpec := { name := "linesAreApart", fn := fun _ => fun
  | [d1, d2] => { results := [.lit (.bool true)], args := [d1, d2] }
  | _ => none }
def linesAreApartRow : OpenClaim := { program := "ytkpigonlnabmdab", sum := "f817ecc61026c7e183f4aa33e99958e7fe8812ba0f4e6ac949f80e5382f575b8", func := "simulacrum/simulacrumlaw13.LinesAreApart", spec := "linesAreApart", unfollowed := true, recurses := true, apart := false }
def LinesAreApartSaid : Prop := linesAreApartRow.holds Try.pinned (OpenSpec.ofChange linesAreApartSpec)

/-- ITS FALSE NEIGHBOUR: 'it returns false'. Refute it at one input. -/
def linesAreApartWrong : ChangeSpec := { name := "linesAreApart", fn := fun _ => fun
  | [d1, d2] => { results := [.lit (.bool false)], args := [d1, d2] }
  | _ => none }
def LinesAreApartWrongFalsely : Prop := linesAreApartRow.holds Try.pinned (OpenSpec.ofChange linesAreApartWrong)

/-- 'simulacrumlaw13.LinesCount': WHATEVER THE INPUT: true; the input reads as it did. -/
def linesCountSpec : ChangeSpec := { name := "linesCount", fn := fun _ => fun
  | [d1, d2, d3, d4] => { results := [.lit (.bool true)], args := [d1, d2, d3, d4] }
  | _ => none }
def linesCountRow : OpenClaim := { program := "ytkpigonlnabmdab", sum := "f817ecc61026c7e183f4aa33e99958e7fe8812ba0f4e6ac949f80e5382f575b8", func := "simulacrum/simulacrumlaw13.LinesCount", spec := "linesCount", unfollowed := true, recurses := true, apart := false }
def LinesCountSaid : Prop := linesCountRow.holds Try.pinned (OpenSpec.ofChange linesCountSpec)

/-- ITS FALSE NEIGHBOUR: 'it returns false'. Refute it at one input. -/
def linesCountWrong : ChangeSpec := { name := "linesCount", fn := fun _ => fun
  | [d1, d2, d3, d4] => { results := [.lit (.bool false)], args := [d1, d2, d3, d4] }
  | _ => none }
def LinesCountWrongFalsely : Prop := linesCountRow.holds Try.pinned (OpenSpec.ofChange linesCountWrong)

/- THE SECOND FORM. 'bulk': how many values and letters a reading holds, each counted each time it is reached (what is shared counts as often as it is met; a slice's spare places count too). A statement '..UptoSaid' is the law's where the arguments, and the package variables that the reading takes, are together of bulk at most 1048576: NARROWER than '..Said'. Prove '..Said' where nothing that the law and all that it calls make is longer than what came in: it says more and counts as full. Else prove '..UptoSaid'. A law counts once. -/
mutual
def uptoBulk {H : Type} : DataW H → Nat
  | .lit (.string bytes) => bytes.length + 1
  | .lit _ => 1
  | .nil => 1
  | .ptr d => uptoBulk d + 1
  | .slice elems spare => uptoBulkAll elems + uptoBulkAll spare + 1
  | .agg parts => uptoBulkAll parts + 1
  | .iface _ d => uptoBulk d + 1
  | .map entries => uptoBulkEntries entries + 1
  | .held _ => 1
def uptoBulkAll {H : Type} : List (DataW H) → Nat
  | [] => 0
  | d :: r => uptoBulk d + uptoBulkAll r
def uptoBulkEntries {H : Type} : List (Lit × DataW H) → Nat
  | [] => 0
  | x :: r => uptoBulkEntry x + uptoBulkEntries r
def uptoBulkEntry {H : Type} : Lit × DataW H → Nat
  | (.string bytes, d) => bytes.length + uptoBulk d + 1
  | (_, d) => uptoBulk d + 1
 end
def uptoSmall : (H : Type) → List (DataW H) → Bool := fun _ ds => decide (uptoBulkAll ds ≤ 1048576)
def OpenSpec.upto (s : _root_.Go.ChangeSpec) : _root_.Go.OpenSpec := { _root_.Go.OpenSpec.ofChange s with cond := some uptoSmall }

/-- 'simulacrumlaw13.LinesWorkAsSpecified', WHERE WHAT IT READS IS OF BULK AT MOST 1048576: true; the input reads as it did. -/
def linesWorkAsSpecifiedUptoRow : OpenClaim := { program := "ytkpigonlnabmdab", sum := "f817ecc61026c7e183f4aa33e99958e7fe8812ba0f4e6ac949f80e5382f575b8", func := "simulacrum/simulacrumlaw13.LinesWorkAsSpecified", spec := "linesWorkAsSpecified", unfollowed := true, recurses := true, apart := false, narrowed := true }
def LinesWorkAsSpecifiedUptoSaid : Prop := linesWorkAsSpecifiedUptoRow.holds Try.pinned (OpenSpec.upto linesWorkAsSpecifiedSpec)

/-- 'simulacrumlaw13.LinesCode', WHERE WHAT IT READS IS OF BULK AT MOST 1048576: true; the input reads as it did. -/
def linesCodeUptoRow : OpenClaim := { program := "ytkpigonlnabmdab", sum := "f817ecc61026c7e183f4aa33e99958e7fe8812ba0f4e6ac949f80e5382f575b8", func := "simulacrum/simulacrumlaw13.LinesCode", spec := "linesCode", unfollowed := true, recurses := true, apart := false, narrowed := true }
def LinesCodeUptoSaid : Prop := linesCodeUptoRow.holds Try.pinned (OpenSpec.upto linesCodeSpec)

/-- 'simulacrumlaw13.LinesStayRaised', WHERE WHAT IT READS IS OF BULK AT MOST 1048576: true; the input reads as it did. -/
def linesStayRaisedUptoRow : OpenClaim := { program := "ytkpigonlnabmdab", sum := "f817ecc61026c7e183f4aa33e99958e7fe8812ba0f4e6ac949f80e5382f575b8", func := "simulacrum/simulacrumlaw13.LinesStayRaised", spec := "linesStayRaised", unfollowed := true, recurses := true, apart := false, narrowed := true }
def LinesStayRaisedUptoSaid : Prop := linesStayRaisedUptoRow.holds Try.pinned (OpenSpec.upto linesStayRaisedSpec)

/-- 'simulacrumlaw13.LinesAreApart', WHERE WHAT IT READS IS OF BULK AT MOST 1048576: true; the input reads as it did. -/
def linesAreApartUptoRow : OpenClaim := { program := "ytkpigonlnabmdab", sum := "f817ecc61026c7e183f4aa33e99958e7fe8812ba0f4e6ac949f80e5382f575b8", func := "simulacrum/simulacrumlaw13.LinesAreApart", spec := "linesAreApart", unfollowed := true, recurses := true, apart := false, narrowed := true }
def LinesAreApartUptoSaid : Prop := linesAreApartUptoRow.holds Try.pinned (OpenSpec.upto linesAreApartSpec)

/-- 'simulacrumlaw13.LinesCount', WHERE WHAT IT READS IS OF BULK AT MOST 1048576: true; the input reads as it did. -/
def linesCountUptoRow : OpenClaim := { program := "ytkpigonlnabmdab", sum := "f817ecc61026c7e183f4aa33e99958e7fe8812ba0f4e6ac949f80e5382f575b8", func := "simulacrum/simulacrumlaw13.LinesCount", spec := "linesCount", unfollowed := true, recurses := true, apart := false, narrowed := true }
def LinesCountUptoSaid : Prop := linesCountUptoRow.holds Try.pinned (OpenSpec.upto linesCountSpec)

end Rows
end Go.Proofs.Ytkpigonlnabmdab
