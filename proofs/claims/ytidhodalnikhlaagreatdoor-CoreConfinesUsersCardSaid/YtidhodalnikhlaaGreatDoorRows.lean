/-
  NARROWER THAN 'FOR EVERY INPUT', by the rows' own cells (each row's printed sentence says how): CoreStepsAsSpecified: laid · CoreAnswersAsSpecified: laid · CoreRunsAsSpecified: laid · CoreTouchesWhatItSays: laid · CoreKeepsValid: laid · CoreConfinesUsers: laid · CoreComputes: laid.
  DERIVED. THE GIVEN ROWS OF THIS SEAT. 7 by the template 'for every input the law returns true; each argument reads behind the call as it read before'; 0 by the template 'total and deterministic' (their statements: YtidhodalnikhlaaGreatDoorTotals.lean).
  GIVEN WITH THE SEED: the statements are not yours to turn. If you find one false, say at which input.
  Laid BY PROGRAM, IN A SANDBOX (cutbox-rows.mjs): the forced cells as the released guide's own fill.sh prints them over the translation 9335eb93e549d093… (all of the seat's roots in one cut). By AI agents, Wed Nov 11 2026. No macro, syntax, notation, axiom, sorry.
-/
import Derived.Test.YtidhodalnikhlaaGreatDoorChecked
import GoSem.Claim
import GoSem.ClaimJoined
import GoSem.ClaimMapViews
import Derived.JoinedTies
import Derived.KernelRfl
namespace Go.Proofs.YtidhodalnikhlaaGreatDoor
/- THE CELL 'sum', in the pinned program and in every row, IS THE sha256 OF THE DUMP (.gsa) THAT YtidhodalnikhlaaGreatDoorProg.lean LOADS. Nothing in Lean hashes anything: it is a label: what it is worth is what the hold of that sum in a sandbox is worth. -/
noncomputable def Tryz.pinned : Pinned := { name := "ytidhodalnikhlaagreatdoor", sum := "9335eb93e549d093d52dc97c5130d5e9f597286f43bb42411ea4f95efc7c4747", checked := Tryz.checked }
namespace Rows
def none {H : Type} : Left H := { results := [], args := [] }

/- WHAT THE LISTED PACKAGE-LEVEL VARIABLES READ AS WHEN THE CALL BEGINS. Each datum BY PROGRAM (the guide's laid-datum.mjs) off the statement by which the dump's own 'gosem.cut.vars' lays the variable. In a bare row this is a premise. The card (YtidhodalnikhlaaGreatDoorCards.lean) ties it to the program's text. -/
def laid_simulacrum_isa_operations {H : Type} : DataW H := .agg [.agg [.lit (.string []), .lit (.int .i64 0)], .agg [.lit (.string [97, 100, 100]), .lit (.int .i64 1)], .agg [.lit (.string [115, 117, 98]), .lit (.int .i64 1)], .agg [.lit (.string [97, 110, 100]), .lit (.int .i64 1)], .agg [.lit (.string [111, 114]), .lit (.int .i64 1)], .agg [.lit (.string [120, 111, 114]), .lit (.int .i64 1)], .agg [.lit (.string [115, 104, 108]), .lit (.int .i64 1)], .agg [.lit (.string [115, 104, 114]), .lit (.int .i64 1)], .agg [.lit (.string [109, 117, 108]), .lit (.int .i64 1)], .agg [.lit (.string [100, 105, 118]), .lit (.int .i64 1)], .agg [.lit (.string [114, 101, 109]), .lit (.int .i64 1)], .agg [.lit (.string [115, 108, 116]), .lit (.int .i64 1)], .agg [.lit (.string [115, 108, 116, 117]), .lit (.int .i64 1)], .agg [.lit (.string []), .lit (.int .i64 0)], .agg [.lit (.string []), .lit (.int .i64 0)], .agg [.lit (.string []), .lit (.int .i64 0)], .agg [.lit (.string [97, 100, 100, 105]), .lit (.int .i64 2)], .agg [.lit (.string [104, 105, 103, 104]), .lit (.int .i64 3)], .agg [.lit (.string []), .lit (.int .i64 0)], .agg [.lit (.string []), .lit (.int .i64 0)], .agg [.lit (.string [108, 119]), .lit (.int .i64 2)], .agg [.lit (.string [115, 119]), .lit (.int .i64 2)], .agg [.lit (.string [108, 98]), .lit (.int .i64 2)], .agg [.lit (.string [115, 98]), .lit (.int .i64 2)], .agg [.lit (.string [115, 119, 97, 112]), .lit (.int .i64 2)], .agg [.lit (.string []), .lit (.int .i64 0)], .agg [.lit (.string []), .lit (.int .i64 0)], .agg [.lit (.string []), .lit (.int .i64 0)], .agg [.lit (.string [98, 101, 113]), .lit (.int .i64 2)], .agg [.lit (.string [98, 110, 101]), .lit (.int .i64 2)], .agg [.lit (.string [98, 108, 116]), .lit (.int .i64 2)], .agg [.lit (.string [98, 108, 116, 117]), .lit (.int .i64 2)], .agg [.lit (.string [106, 97, 108]), .lit (.int .i64 3)], .agg [.lit (.string [106, 97, 108, 114]), .lit (.int .i64 2)], .agg [.lit (.string []), .lit (.int .i64 0)], .agg [.lit (.string []), .lit (.int .i64 0)], .agg [.lit (.string []), .lit (.int .i64 0)], .agg [.lit (.string []), .lit (.int .i64 0)], .agg [.lit (.string []), .lit (.int .i64 0)], .agg [.lit (.string []), .lit (.int .i64 0)], .agg [.lit (.string [101, 99, 97, 108, 108]), .lit (.int .i64 5)], .agg [.lit (.string [101, 114, 101, 116]), .lit (.int .i64 5)], .agg [.lit (.string [99, 115, 114, 114]), .lit (.int .i64 3)], .agg [.lit (.string [99, 115, 114, 119]), .lit (.int .i64 3)], .agg [.lit (.string [102, 108, 117, 115, 104]), .lit (.int .i64 4)], .agg [.lit (.string [119, 97, 105, 116]), .lit (.int .i64 5)], .agg [.lit (.string [105, 110]), .lit (.int .i64 3)], .agg [.lit (.string [111, 117, 116]), .lit (.int .i64 3)], .agg [.lit (.string [104, 97, 108, 116]), .lit (.int .i64 5)]]

/-- 'simulacrumlaw12.CoreStepsAsSpecified': WHATEVER THE INPUT: true; the input reads as it did. -/
def coreStepsAsSpecifiedSpec : ChangeSpec := { name := "coreStepsAsSpecified", fn := fun _ => fun
  | [d1, d2, d3] => { results := [.lit (.bool true)], args := [d1, d2, d3] }
  | _ => none }
def coreStepsAsSpecifiedRow : OpenClaim := { program := "ytidhodalnikhlaagreatdoor", sum := "9335eb93e549d093d52dc97c5130d5e9f597286f43bb42411ea4f95efc7c4747", func := "simulacrum/simulacrumlaw12.CoreStepsAsSpecified", spec := "coreStepsAsSpecified", unfollowed := true, recurses := true, named := ["simulacrum/isa.operations"], apart := false, laid := [("simulacrum/isa.operations", laid_simulacrum_isa_operations)] }
def CoreStepsAsSpecifiedSaid : Prop := coreStepsAsSpecifiedRow.holds Tryz.pinned (OpenSpec.ofChange coreStepsAsSpecifiedSpec)

/-- ITS FALSE NEIGHBOUR: 'it returns false'. Refute it at one input. -/
def coreStepsAsSpecifiedWrong : ChangeSpec := { name := "coreStepsAsSpecified", fn := fun _ => fun
  | [d1, d2, d3] => { results := [.lit (.bool false)], args := [d1, d2, d3] }
  | _ => none }
def CoreStepsAsSpecifiedWrongFalsely : Prop := coreStepsAsSpecifiedRow.holds Tryz.pinned (OpenSpec.ofChange coreStepsAsSpecifiedWrong)

/-- 'simulacrumlaw12.CoreAnswersAsSpecified': WHATEVER THE INPUT: true; the input reads as it did. -/
def coreAnswersAsSpecifiedSpec : ChangeSpec := { name := "coreAnswersAsSpecified", fn := fun _ => fun
  | [d1, d2, d3, d4, d5] => { results := [.lit (.bool true)], args := [d1, d2, d3, d4, d5] }
  | _ => none }
def coreAnswersAsSpecifiedRow : OpenClaim := { program := "ytidhodalnikhlaagreatdoor", sum := "9335eb93e549d093d52dc97c5130d5e9f597286f43bb42411ea4f95efc7c4747", func := "simulacrum/simulacrumlaw12.CoreAnswersAsSpecified", spec := "coreAnswersAsSpecified", unfollowed := true, recurses := true, named := ["simulacrum/isa.operations"], apart := false, laid := [("simulacrum/isa.operations", laid_simulacrum_isa_operations)] }
def CoreAnswersAsSpecifiedSaid : Prop := coreAnswersAsSpecifiedRow.holds Tryz.pinned (OpenSpec.ofChange coreAnswersAsSpecifiedSpec)

/-- ITS FALSE NEIGHBOUR: 'it returns false'. Refute it at one input. -/
def coreAnswersAsSpecifiedWrong : ChangeSpec := { name := "coreAnswersAsSpecified", fn := fun _ => fun
  | [d1, d2, d3, d4, d5] => { results := [.lit (.bool false)], args := [d1, d2, d3, d4, d5] }
  | _ => none }
def CoreAnswersAsSpecifiedWrongFalsely : Prop := coreAnswersAsSpecifiedRow.holds Tryz.pinned (OpenSpec.ofChange coreAnswersAsSpecifiedWrong)

/-- 'simulacrumlaw12.CoreRunsAsSpecified': WHATEVER THE INPUT: true; the input reads as it did. -/
def coreRunsAsSpecifiedSpec : ChangeSpec := { name := "coreRunsAsSpecified", fn := fun _ => fun
  | [d1, d2, d3, d4] => { results := [.lit (.bool true)], args := [d1, d2, d3, d4] }
  | _ => none }
def coreRunsAsSpecifiedRow : OpenClaim := { program := "ytidhodalnikhlaagreatdoor", sum := "9335eb93e549d093d52dc97c5130d5e9f597286f43bb42411ea4f95efc7c4747", func := "simulacrum/simulacrumlaw12.CoreRunsAsSpecified", spec := "coreRunsAsSpecified", unfollowed := true, recurses := true, named := ["simulacrum/isa.operations"], apart := false, laid := [("simulacrum/isa.operations", laid_simulacrum_isa_operations)] }
def CoreRunsAsSpecifiedSaid : Prop := coreRunsAsSpecifiedRow.holds Tryz.pinned (OpenSpec.ofChange coreRunsAsSpecifiedSpec)

/-- ITS FALSE NEIGHBOUR: 'it returns false'. Refute it at one input. -/
def coreRunsAsSpecifiedWrong : ChangeSpec := { name := "coreRunsAsSpecified", fn := fun _ => fun
  | [d1, d2, d3, d4] => { results := [.lit (.bool false)], args := [d1, d2, d3, d4] }
  | _ => none }
def CoreRunsAsSpecifiedWrongFalsely : Prop := coreRunsAsSpecifiedRow.holds Tryz.pinned (OpenSpec.ofChange coreRunsAsSpecifiedWrong)

/-- 'simulacrumlaw12.CoreTouchesWhatItSays': WHATEVER THE INPUT: true; the input reads as it did. -/
def coreTouchesWhatItSaysSpec : ChangeSpec := { name := "coreTouchesWhatItSays", fn := fun _ => fun
  | [d1, d2, d3, d4] => { results := [.lit (.bool true)], args := [d1, d2, d3, d4] }
  | _ => none }
def coreTouchesWhatItSaysRow : OpenClaim := { program := "ytidhodalnikhlaagreatdoor", sum := "9335eb93e549d093d52dc97c5130d5e9f597286f43bb42411ea4f95efc7c4747", func := "simulacrum/simulacrumlaw12.CoreTouchesWhatItSays", spec := "coreTouchesWhatItSays", unfollowed := true, recurses := true, named := ["simulacrum/isa.operations"], apart := false, laid := [("simulacrum/isa.operations", laid_simulacrum_isa_operations)] }
def CoreTouchesWhatItSaysSaid : Prop := coreTouchesWhatItSaysRow.holds Tryz.pinned (OpenSpec.ofChange coreTouchesWhatItSaysSpec)

/-- ITS FALSE NEIGHBOUR: 'it returns false'. Refute it at one input. -/
def coreTouchesWhatItSaysWrong : ChangeSpec := { name := "coreTouchesWhatItSays", fn := fun _ => fun
  | [d1, d2, d3, d4] => { results := [.lit (.bool false)], args := [d1, d2, d3, d4] }
  | _ => none }
def CoreTouchesWhatItSaysWrongFalsely : Prop := coreTouchesWhatItSaysRow.holds Tryz.pinned (OpenSpec.ofChange coreTouchesWhatItSaysWrong)

/-- 'simulacrumlaw12.CoreKeepsValid': WHATEVER THE INPUT: true; the input reads as it did. -/
def coreKeepsValidSpec : ChangeSpec := { name := "coreKeepsValid", fn := fun _ => fun
  | [d1, d2, d3, d4, d5] => { results := [.lit (.bool true)], args := [d1, d2, d3, d4, d5] }
  | _ => none }
def coreKeepsValidRow : OpenClaim := { program := "ytidhodalnikhlaagreatdoor", sum := "9335eb93e549d093d52dc97c5130d5e9f597286f43bb42411ea4f95efc7c4747", func := "simulacrum/simulacrumlaw12.CoreKeepsValid", spec := "coreKeepsValid", unfollowed := true, recurses := true, named := ["simulacrum/isa.operations"], apart := false, laid := [("simulacrum/isa.operations", laid_simulacrum_isa_operations)] }
def CoreKeepsValidSaid : Prop := coreKeepsValidRow.holds Tryz.pinned (OpenSpec.ofChange coreKeepsValidSpec)

/-- ITS FALSE NEIGHBOUR: 'it returns false'. Refute it at one input. -/
def coreKeepsValidWrong : ChangeSpec := { name := "coreKeepsValid", fn := fun _ => fun
  | [d1, d2, d3, d4, d5] => { results := [.lit (.bool false)], args := [d1, d2, d3, d4, d5] }
  | _ => none }
def CoreKeepsValidWrongFalsely : Prop := coreKeepsValidRow.holds Tryz.pinned (OpenSpec.ofChange coreKeepsValidWrong)

/-- 'simulacrumlaw12.CoreConfinesUsers': WHATEVER THE INPUT: true; the input reads as it did. -/
def coreConfinesUsersSpec : ChangeSpec := { name := "coreConfinesUsers", fn := fun _ => fun
  | [d1, d2, d3] => { results := [.lit (.bool true)], args := [d1, d2, d3] }
  | _ => none }
def coreConfinesUsersRow : OpenClaim := { program := "ytidhodalnikhlaagreatdoor", sum := "9335eb93e549d093d52dc97c5130d5e9f597286f43bb42411ea4f95efc7c4747", func := "simulacrum/simulacrumlaw12.CoreConfinesUsers", spec := "coreConfinesUsers", unfollowed := true, recurses := true, named := ["simulacrum/isa.operations"], apart := false, laid := [("simulacrum/isa.operations", laid_simulacrum_isa_operations)] }
def CoreConfinesUsersSaid : Prop := coreConfinesUsersRow.holds Tryz.pinned (OpenSpec.ofChange coreConfinesUsersSpec)

/-- ITS FALSE NEIGHBOUR: 'it returns false'. Refute it at one input. -/
def coreConfinesUsersWrong : ChangeSpec := { name := "coreConfinesUsers", fn := fun _ => fun
  | [d1, d2, d3] => { results := [.lit (.bool false)], args := [d1, d2, d3] }
  | _ => none }
def CoreConfinesUsersWrongFalsely : Prop := coreConfinesUsersRow.holds Tryz.pinned (OpenSpec.ofChange coreConfinesUsersWrong)

/-- 'simulacrumlaw12.CoreComputes': WHATEVER THE INPUT: true; the input reads as it did. -/
def coreComputesSpec : ChangeSpec := { name := "coreComputes", fn := fun _ => fun
  | [d1, d2, d3] => { results := [.lit (.bool true)], args := [d1, d2, d3] }
  | _ => none }
def coreComputesRow : OpenClaim := { program := "ytidhodalnikhlaagreatdoor", sum := "9335eb93e549d093d52dc97c5130d5e9f597286f43bb42411ea4f95efc7c4747", func := "simulacrum/simulacrumlaw12.CoreComputes", spec := "coreComputes", unfollowed := true, recurses := true, named := ["simulacrum/isa.operations"], apart := false, laid := [("simulacrum/isa.operations", laid_simulacrum_isa_operations)] }
def CoreComputesSaid : Prop := coreComputesRow.holds Tryz.pinned (OpenSpec.ofChange coreComputesSpec)

/-- ITS FALSE NEIGHBOUR: 'it returns false'. Refute it at one input. -/
def coreComputesWrong : ChangeSpec := { name := "coreComputes", fn := fun _ => fun
  | [d1, d2, d3] => { results := [.lit (.bool false)], args := [d1, d2, d3] }
  | _ => none }
def CoreComputesWrongFalsely : Prop := coreComputesRow.holds Tryz.pinned (OpenSpec.ofChange coreComputesWrong)

/- THE SECOND FORM. 'bulk': how many values and letters a reading holds, each counted each time it is reached (what is shared counts as often as it is met; a slice's spare places count too). A statement '..UptoSaid' is the law's where the arguments, and the package variables that the reading takes, are together of bulk at most 1048576: NARROWER than '..Said'. Prove '..Said' where nothing that the law and all that it calls make is longer than what came in: it says more and counts as full. Else prove '..UptoSaid'. A law counts once. -/
mutual
def uptoBulk {H : Type} : DataW H → Nat
  | .lit (.string bytes) => bytes.length + 1
  | .lit _ => 1
  | .nil => 1
  | .ptr d => uptoBulk d + 1
  | .slice elems spare => uptoBulkAll elems + uptoBulkAll spare + 1
  | .agg parts => uptoBulkAll parts + 1
  | .iface _ d => uptoBulk d + 1
  | .map entries => uptoBulkEntries entries + 1
  | .held _ => 1
def uptoBulkAll {H : Type} : List (DataW H) → Nat
  | [] => 0
  | d :: r => uptoBulk d + uptoBulkAll r
def uptoBulkEntries {H : Type} : List (Lit × DataW H) → Nat
  | [] => 0
  | x :: r => uptoBulkEntry x + uptoBulkEntries r
def uptoBulkEntry {H : Type} : Lit × DataW H → Nat
  | (.string bytes, d) => bytes.length + uptoBulk d + 1
  | (_, d) => uptoBulk d + 1
 end
def uptoSmall : (H : Type) → List (DataW H) → Bool := fun _ ds => decide (uptoBulkAll ds ≤ 1048576)
def OpenSpec.upto (s : _root_.Go.ChangeSpec) : _root_.Go.OpenSpec := { _root_.Go.OpenSpec.ofChange s with cond := some uptoSmall }

/-- 'simulacrumlaw12.CoreStepsAsSpecified', WHERE WHAT IT READS IS OF BULK AT MOST 1048576: true; the input reads as it did. -/
def coreStepsAsSpecifiedUptoRow : OpenClaim := { program := "ytidhodalnikhlaagreatdoor", sum := "9335eb93e549d093d52dc97c5130d5e9f597286f43bb42411ea4f95efc7c4747", func := "simulacrum/simulacrumlaw12.CoreStepsAsSpecified", spec := "coreStepsAsSpecified", unfollowed := true, recurses := true, named := ["simulacrum/isa.operations"], apart := false, laid := [("simulacrum/isa.operations", laid_simulacrum_isa_operations)], narrowed := true }
def CoreStepsAsSpecifiedUptoSaid : Prop := coreStepsAsSpecifiedUptoRow.holds Tryz.pinned (OpenSpec.upto coreStepsAsSpecifiedSpec)

/-- 'simulacrumlaw12.CoreAnswersAsSpecified', WHERE WHAT IT READS IS OF BULK AT MOST 1048576: true; the input reads as it did. -/
def coreAnswersAsSpecifiedUptoRow : OpenClaim := { program := "ytidhodalnikhlaagreatdoor", sum := "9335eb93e549d093d52dc97c5130d5e9f597286f43bb42411ea4f95efc7c4747", func := "simulacrum/simulacrumlaw12.CoreAnswersAsSpecified", spec := "coreAnswersAsSpecified", unfollowed := true, recurses := true, named := ["simulacrum/isa.operations"], apart := false, laid := [("simulacrum/isa.operations", laid_simulacrum_isa_operations)], narrowed := true }
def CoreAnswersAsSpecifiedUptoSaid : Prop := coreAnswersAsSpecifiedUptoRow.holds Tryz.pinned (OpenSpec.upto coreAnswersAsSpecifiedSpec)

/-- 'simulacrumlaw12.CoreRunsAsSpecified', WHERE WHAT IT READS IS OF BULK AT MOST 1048576: true; the input reads as it did. -/
def coreRunsAsSpecifiedUptoRow : OpenClaim := { program := "ytidhodalnikhlaagreatdoor", sum := "9335eb93e549d093d52dc97c5130d5e9f597286f43bb42411ea4f95efc7c4747", func := "simulacrum/simulacrumlaw12.CoreRunsAsSpecified", spec := "coreRunsAsSpecified", unfollowed := true, recurses := true, named := ["simulacrum/isa.operations"], apart := false, laid := [("simulacrum/isa.operations", laid_simulacrum_isa_operations)], narrowed := true }
def CoreRunsAsSpecifiedUptoSaid : Prop := coreRunsAsSpecifiedUptoRow.holds Tryz.pinned (OpenSpec.upto coreRunsAsSpecifiedSpec)

/-- 'simulacrumlaw12.CoreTouchesWhatItSays', WHERE WHAT IT READS IS OF BULK AT MOST 1048576: true; the input reads as it did. -/
def coreTouchesWhatItSaysUptoRow : OpenClaim := { program := "ytidhodalnikhlaagreatdoor", sum := "9335eb93e549d093d52dc97c5130d5e9f597286f43bb42411ea4f95efc7c4747", func := "simulacrum/simulacrumlaw12.CoreTouchesWhatItSays", spec := "coreTouchesWhatItSays", unfollowed := true, recurses := true, named := ["simulacrum/isa.operations"], apart := false, laid := [("simulacrum/isa.operations", laid_simulacrum_isa_operations)], narrowed := true }
def CoreTouchesWhatItSaysUptoSaid : Prop := coreTouchesWhatItSaysUptoRow.holds Tryz.pinned (OpenSpec.upto coreTouchesWhatItSaysSpec)

/-- 'simulacrumlaw12.CoreKeepsValid', WHERE WHAT IT READS IS OF BULK AT MOST 1048576: true; the input reads as it did. -/
def coreKeepsValidUptoRow : OpenClaim := { program := "ytidhodalnikhlaagreatdoor", sum := "9335eb93e549d093d52dc97c5130d5e9f597286f43bb42411ea4f95efc7c4747", func := "simulacrum/simulacrumlaw12.CoreKeepsValid", spec := "coreKeepsValid", unfollowed := true, recurses := true, named := ["simulacrum/isa.operations"], apart := false, laid := [("simulacrum/isa.operations", laid_simulacrum_isa_operations)], narrowed := true }
def CoreKeepsValidUptoSaid : Prop := coreKeepsValidUptoRow.holds Tryz.pinned (OpenSpec.upto coreKeepsValidSpec)

/-- 'simulacrumlaw12.CoreConfinesUsers', WHERE WHAT IT READS IS OF BULK AT MOST 1048576: true; the input reads as it did. -/
def coreConfinesUsersUptoRow : OpenClaim := { program := "ytidhodalnikhlaagreatdoor", sum := "9335eb93e549d093d52dc97c5130d5e9f597286f43bb42411ea4f95efc7c4747", func := "simulacrum/simulacrumlaw12.CoreConfinesUsers", spec := "coreConfinesUsers", unfollowed := true, recurses := true, named := ["simulacrum/isa.operations"], apart := false, laid := [("simulacrum/isa.operations", laid_simulacrum_isa_operations)], narrowed := true }
def CoreConfinesUsersUptoSaid : Prop := coreConfinesUsersUptoRow.holds Tryz.pinned (OpenSpec.upto coreConfinesUsersSpec)

/-- 'simulacrumlaw12.CoreComputes', WHERE WHAT IT READS IS OF BULK AT MOST 1048576: true; the input reads as it did. -/
def coreComputesUptoRow : OpenClaim := { program := "ytidhodalnikhlaagreatdoor", sum := "9335eb93e549d093d52dc97c5130d5e9f597286f43bb42411ea4f95efc7c4747", func := "simulacrum/simulacrumlaw12.CoreComputes", spec := "coreComputes", unfollowed := true, recurses := true, named := ["simulacrum/isa.operations"], apart := false, laid := [("simulacrum/isa.operations", laid_simulacrum_isa_operations)], narrowed := true }
def CoreComputesUptoSaid : Prop := coreComputesUptoRow.holds Tryz.pinned (OpenSpec.upto coreComputesSpec)

end Rows
end Go.Proofs.YtidhodalnikhlaaGreatDoor
