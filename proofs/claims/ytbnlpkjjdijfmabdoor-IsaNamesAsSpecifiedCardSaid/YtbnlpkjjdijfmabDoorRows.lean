/-
  NARROWER THAN 'FOR EVERY INPUT', by the rows' own cells (each row's printed sentence says how): IsaEncodesAsSpecified: laid · IsaDecodesAsSpecified: laid · IsaNamesAsSpecified: laid · IsaWordsAreOneToOne: laid · IsaNamesAreOneToOne: laid · IsaTargetsTurnBack: laid.
  DERIVED. THE GIVEN ROWS OF THIS SEAT. 6 by the template 'for every input the law returns true; each argument reads behind the call as it read before'; 0 by the template 'total and deterministic' (their statements: YtbnlpkjjdijfmabDoorTotals.lean).
  GIVEN WITH THE SEED: the statements are not yours to turn. If you find one false, say at which input.
  Laid BY PROGRAM, IN A SANDBOX (cutbox-rows.mjs): the forced cells as the released guide's own fill.sh prints them over the translation 903eab9fd0c1bd6c… (all of the seat's roots in one cut). By AI agents, Wed Nov 11 2026. No macro, syntax, notation, axiom, sorry.
-/
import Derived.Test.YtbnlpkjjdijfmabDoorChecked
import GoSem.Claim
import GoSem.ClaimJoined
import GoSem.ClaimMapViews
import Derived.JoinedTies
import Derived.KernelRfl
namespace Go.Proofs.YtbnlpkjjdijfmabDoor
/- THE CELL 'sum', in the pinned program and in every row, IS THE sha256 OF THE DUMP (.gsa) THAT YtbnlpkjjdijfmabDoorProg.lean LOADS. Nothing in Lean hashes anything: it is a label: what it is worth is what the hold of that sum in a sandbox is worth. -/
noncomputable def Tryd.pinned : Pinned := { name := "ytbnlpkjjdijfmabdoor", sum := "903eab9fd0c1bd6c62b39722299dd9e6476bb864079d96ac5d38dc49cdcab161", checked := Tryd.checked }
namespace Rows
def none {H : Type} : Left H := { results := [], args := [] }

/- WHAT THE LISTED PACKAGE-LEVEL VARIABLES READ AS WHEN THE CALL BEGINS. Each datum BY PROGRAM (the guide's laid-datum.mjs) off the statement by which the dump's own 'gosem.cut.vars' lays the variable. In a bare row this is a premise. The card (YtbnlpkjjdijfmabDoorCards.lean) ties it to the program's text. -/
def laid_simulacrum_isa_operations {H : Type} : DataW H := .agg [.agg [.lit (.string []), .lit (.int .i64 0)], .agg [.lit (.string [97, 100, 100]), .lit (.int .i64 1)], .agg [.lit (.string [115, 117, 98]), .lit (.int .i64 1)], .agg [.lit (.string [97, 110, 100]), .lit (.int .i64 1)], .agg [.lit (.string [111, 114]), .lit (.int .i64 1)], .agg [.lit (.string [120, 111, 114]), .lit (.int .i64 1)], .agg [.lit (.string [115, 104, 108]), .lit (.int .i64 1)], .agg [.lit (.string [115, 104, 114]), .lit (.int .i64 1)], .agg [.lit (.string [109, 117, 108]), .lit (.int .i64 1)], .agg [.lit (.string [100, 105, 118]), .lit (.int .i64 1)], .agg [.lit (.string [114, 101, 109]), .lit (.int .i64 1)], .agg [.lit (.string [115, 108, 116]), .lit (.int .i64 1)], .agg [.lit (.string [115, 108, 116, 117]), .lit (.int .i64 1)], .agg [.lit (.string []), .lit (.int .i64 0)], .agg [.lit (.string []), .lit (.int .i64 0)], .agg [.lit (.string []), .lit (.int .i64 0)], .agg [.lit (.string [97, 100, 100, 105]), .lit (.int .i64 2)], .agg [.lit (.string [104, 105, 103, 104]), .lit (.int .i64 3)], .agg [.lit (.string []), .lit (.int .i64 0)], .agg [.lit (.string []), .lit (.int .i64 0)], .agg [.lit (.string [108, 119]), .lit (.int .i64 2)], .agg [.lit (.string [115, 119]), .lit (.int .i64 2)], .agg [.lit (.string [108, 98]), .lit (.int .i64 2)], .agg [.lit (.string [115, 98]), .lit (.int .i64 2)], .agg [.lit (.string [115, 119, 97, 112]), .lit (.int .i64 2)], .agg [.lit (.string []), .lit (.int .i64 0)], .agg [.lit (.string []), .lit (.int .i64 0)], .agg [.lit (.string []), .lit (.int .i64 0)], .agg [.lit (.string [98, 101, 113]), .lit (.int .i64 2)], .agg [.lit (.string [98, 110, 101]), .lit (.int .i64 2)], .agg [.lit (.string [98, 108, 116]), .lit (.int .i64 2)], .agg [.lit (.string [98, 108, 116, 117]), .lit (.int .i64 2)], .agg [.lit (.string [106, 97, 108]), .lit (.int .i64 3)], .agg [.lit (.string [106, 97, 108, 114]), .lit (.int .i64 2)], .agg [.lit (.string []), .lit (.int .i64 0)], .agg [.lit (.string []), .lit (.int .i64 0)], .agg [.lit (.string []), .lit (.int .i64 0)], .agg [.lit (.string []), .lit (.int .i64 0)], .agg [.lit (.string []), .lit (.int .i64 0)], .agg [.lit (.string []), .lit (.int .i64 0)], .agg [.lit (.string [101, 99, 97, 108, 108]), .lit (.int .i64 5)], .agg [.lit (.string [101, 114, 101, 116]), .lit (.int .i64 5)], .agg [.lit (.string [99, 115, 114, 114]), .lit (.int .i64 3)], .agg [.lit (.string [99, 115, 114, 119]), .lit (.int .i64 3)], .agg [.lit (.string [102, 108, 117, 115, 104]), .lit (.int .i64 4)], .agg [.lit (.string [119, 97, 105, 116]), .lit (.int .i64 5)], .agg [.lit (.string [105, 110]), .lit (.int .i64 3)], .agg [.lit (.string [111, 117, 116]), .lit (.int .i64 3)], .agg [.lit (.string [104, 97, 108, 116]), .lit (.int .i64 5)]]

/-- 'simulacrumlaw04.IsaEncodesAsSpecified': WHATEVER THE INPUT: true; the input reads as it did. -/
def isaEncodesAsSpecifiedSpec : ChangeSpec := { name := "isaEncodesAsSpecified", fn := fun _ => fun
  | [d1, d2] => { results := [.lit (.bool true)], args := [d1, d2] }
  | _ => none }
def isaEncodesAsSpecifiedRow : OpenClaim := { program := "ytbnlpkjjdijfmabdoor", sum := "903eab9fd0c1bd6c62b39722299dd9e6476bb864079d96ac5d38dc49cdcab161", func := "simulacrum/simulacrumlaw04.IsaEncodesAsSpecified", spec := "isaEncodesAsSpecified", unfollowed := true, recurses := true, named := ["simulacrum/isa.operations"], apart := false, laid := [("simulacrum/isa.operations", laid_simulacrum_isa_operations)] }
def IsaEncodesAsSpecifiedSaid : Prop := isaEncodesAsSpecifiedRow.holds Tryd.pinned (OpenSpec.ofChange isaEncodesAsSpecifiedSpec)

/-- ITS FALSE NEIGHBOUR: 'it returns false'. Refute it at one input. -/
def isaEncodesAsSpecifiedWrong : ChangeSpec := { name := "isaEncodesAsSpecified", fn := fun _ => fun
  | [d1, d2] => { results := [.lit (.bool false)], args := [d1, d2] }
  | _ => none }
def IsaEncodesAsSpecifiedWrongFalsely : Prop := isaEncodesAsSpecifiedRow.holds Tryd.pinned (OpenSpec.ofChange isaEncodesAsSpecifiedWrong)

/-- 'simulacrumlaw04.IsaDecodesAsSpecified': WHATEVER THE INPUT: true; the input reads as it did. -/
def isaDecodesAsSpecifiedSpec : ChangeSpec := { name := "isaDecodesAsSpecified", fn := fun _ => fun
  | [d] => { results := [.lit (.bool true)], args := [d] }
  | _ => none }
def isaDecodesAsSpecifiedRow : OpenClaim := { program := "ytbnlpkjjdijfmabdoor", sum := "903eab9fd0c1bd6c62b39722299dd9e6476bb864079d96ac5d38dc49cdcab161", func := "simulacrum/simulacrumlaw04.IsaDecodesAsSpecified", spec := "isaDecodesAsSpecified", unfollowed := true, recurses := true, named := ["simulacrum/isa.operations"], apart := false, laid := [("simulacrum/isa.operations", laid_simulacrum_isa_operations)] }
def IsaDecodesAsSpecifiedSaid : Prop := isaDecodesAsSpecifiedRow.holds Tryd.pinned (OpenSpec.ofChange isaDecodesAsSpecifiedSpec)

/-- ITS FALSE NEIGHBOUR: 'it returns false'. Refute it at one input. -/
def isaDecodesAsSpecifiedWrong : ChangeSpec := { name := "isaDecodesAsSpecified", fn := fun _ => fun
  | [d] => { results := [.lit (.bool false)], args := [d] }
  | _ => none }
def IsaDecodesAsSpecifiedWrongFalsely : Prop := isaDecodesAsSpecifiedRow.holds Tryd.pinned (OpenSpec.ofChange isaDecodesAsSpecifiedWrong)

/-- 'simulacrumlaw04.IsaNamesAsSpecified': WHATEVER THE INPUT: true; the input reads as it did. -/
def isaNamesAsSpecifiedSpec : ChangeSpec := { name := "isaNamesAsSpecified", fn := fun _ => fun
  | [d1, d2] => { results := [.lit (.bool true)], args := [d1, d2] }
  | _ => none }
def isaNamesAsSpecifiedRow : OpenClaim := { program := "ytbnlpkjjdijfmabdoor", sum := "903eab9fd0c1bd6c62b39722299dd9e6476bb864079d96ac5d38dc49cdcab161", func := "simulacrum/simulacrumlaw04.IsaNamesAsSpecified", spec := "isaNamesAsSpecified", unfollowed := true, recurses := true, named := ["simulacrum/isa.operations"], apart := false, laid := [("simulacrum/isa.operations", laid_simulacrum_isa_operations)] }
def IsaNamesAsSpecifiedSaid : Prop := isaNamesAsSpecifiedRow.holds Tryd.pinned (OpenSpec.ofChange isaNamesAsSpecifiedSpec)

/-- ITS FALSE NEIGHBOUR: 'it returns false'. Refute it at one input. -/
def isaNamesAsSpecifiedWrong : ChangeSpec := { name := "isaNamesAsSpecified", fn := fun _ => fun
  | [d1, d2] => { results := [.lit (.bool false)], args := [d1, d2] }
  | _ => none }
def IsaNamesAsSpecifiedWrongFalsely : Prop := isaNamesAsSpecifiedRow.holds Tryd.pinned (OpenSpec.ofChange isaNamesAsSpecifiedWrong)

/-- 'simulacrumlaw04.IsaWordsAreOneToOne': WHATEVER THE INPUT: true; the input reads as it did. -/
def isaWordsAreOneToOneSpec : ChangeSpec := { name := "isaWordsAreOneToOne", fn := fun _ => fun
  | [d1, d2, d3] => { results := [.lit (.bool true)], args := [d1, d2, d3] }
  | _ => none }
def isaWordsAreOneToOneRow : OpenClaim := { program := "ytbnlpkjjdijfmabdoor", sum := "903eab9fd0c1bd6c62b39722299dd9e6476bb864079d96ac5d38dc49cdcab161", func := "simulacrum/simulacrumlaw04.IsaWordsAreOneToOne", spec := "isaWordsAreOneToOne", unfollowed := true, recurses := true, named := ["simulacrum/isa.operations"], apart := false, laid := [("simulacrum/isa.operations", laid_simulacrum_isa_operations)] }
def IsaWordsAreOneToOneSaid : Prop := isaWordsAreOneToOneRow.holds Tryd.pinned (OpenSpec.ofChange isaWordsAreOneToOneSpec)

/-- ITS FALSE NEIGHBOUR: 'it returns false'. Refute it at one input. -/
def isaWordsAreOneToOneWrong : ChangeSpec := { name := "isaWordsAreOneToOne", fn := fun _ => fun
  | [d1, d2, d3] => { results := [.lit (.bool false)], args := [d1, d2, d3] }
  | _ => none }
def IsaWordsAreOneToOneWrongFalsely : Prop := isaWordsAreOneToOneRow.holds Tryd.pinned (OpenSpec.ofChange isaWordsAreOneToOneWrong)

/-- 'simulacrumlaw04.IsaNamesAreOneToOne': WHATEVER THE INPUT: true; the input reads as it did. -/
def isaNamesAreOneToOneSpec : ChangeSpec := { name := "isaNamesAreOneToOne", fn := fun _ => fun
  | [d1, d2] => { results := [.lit (.bool true)], args := [d1, d2] }
  | _ => none }
def isaNamesAreOneToOneRow : OpenClaim := { program := "ytbnlpkjjdijfmabdoor", sum := "903eab9fd0c1bd6c62b39722299dd9e6476bb864079d96ac5d38dc49cdcab161", func := "simulacrum/simulacrumlaw04.IsaNamesAreOneToOne", spec := "isaNamesAreOneToOne", unfollowed := true, recurses := true, named := ["simulacrum/isa.operations"], apart := false, laid := [("simulacrum/isa.operations", laid_simulacrum_isa_operations)] }
def IsaNamesAreOneToOneSaid : Prop := isaNamesAreOneToOneRow.holds Tryd.pinned (OpenSpec.ofChange isaNamesAreOneToOneSpec)

/-- ITS FALSE NEIGHBOUR: 'it returns false'. Refute it at one input. -/
def isaNamesAreOneToOneWrong : ChangeSpec := { name := "isaNamesAreOneToOne", fn := fun _ => fun
  | [d1, d2] => { results := [.lit (.bool false)], args := [d1, d2] }
  | _ => none }
def IsaNamesAreOneToOneWrongFalsely : Prop := isaNamesAreOneToOneRow.holds Tryd.pinned (OpenSpec.ofChange isaNamesAreOneToOneWrong)

/-- 'simulacrumlaw04.IsaTargetsTurnBack': WHATEVER THE INPUT: true; the input reads as it did. -/
def isaTargetsTurnBackSpec : ChangeSpec := { name := "isaTargetsTurnBack", fn := fun _ => fun
  | [d1, d2] => { results := [.lit (.bool true)], args := [d1, d2] }
  | _ => none }
def isaTargetsTurnBackRow : OpenClaim := { program := "ytbnlpkjjdijfmabdoor", sum := "903eab9fd0c1bd6c62b39722299dd9e6476bb864079d96ac5d38dc49cdcab161", func := "simulacrum/simulacrumlaw04.IsaTargetsTurnBack", spec := "isaTargetsTurnBack", unfollowed := true, recurses := true, named := ["simulacrum/isa.operations"], apart := false, laid := [("simulacrum/isa.operations", laid_simulacrum_isa_operations)] }
def IsaTargetsTurnBackSaid : Prop := isaTargetsTurnBackRow.holds Tryd.pinned (OpenSpec.ofChange isaTargetsTurnBackSpec)

/-- ITS FALSE NEIGHBOUR: 'it returns false'. Refute it at one input. -/
def isaTargetsTurnBackWrong : ChangeSpec := { name := "isaTargetsTurnBack", fn := fun _ => fun
  | [d1, d2] => { results := [.lit (.bool false)], args := [d1, d2] }
  | _ => none }
def IsaTargetsTurnBackWrongFalsely : Prop := isaTargetsTurnBackRow.holds Tryd.pinned (OpenSpec.ofChange isaTargetsTurnBackWrong)

/- THE SECOND FORM. 'bulk': how many values and letters a reading holds, each counted each time it is reached (what is shared counts as often as it is met; a slice's spare places count too). A statement '..UptoSaid' is the law's where the arguments, and the package variables that the reading takes, are together of bulk at most 1048576: NARROWER than '..Said'. Prove '..Said' where nothing that the law and all that it calls make is longer than what came in: it says more and counts as full. Else prove '..UptoSaid'. A law counts once. -/
mutual
def uptoBulk {H : Type} : DataW H → Nat
  | .lit (.string bytes) => bytes.length + 1
  | .lit _ => 1
  | .nil => 1
  | .ptr d => uptoBulk d + 1
  | .slice elems spare => uptoBulkAll elems + uptoBulkAll spare + 1
  | .agg parts => uptoBulkAll parts + 1
  | .iface _ d => uptoBulk d + 1
  | .map entries => uptoBulkEntries entries + 1
  | .held _ => 1
def uptoBulkAll {H : Type} : List (DataW H) → Nat
  | [] => 0
  | d :: r => uptoBulk d + uptoBulkAll r
def uptoBulkEntries {H : Type} : List (Lit × DataW H) → Nat
  | [] => 0
  | x :: r => uptoBulkEntry x + uptoBulkEntries r
def uptoBulkEntry {H : Type} : Lit × DataW H → Nat
  | (.string bytes, d) => bytes.length + uptoBulk d + 1
  | (_, d) => uptoBulk d + 1
 end
def uptoSmall : (H : Type) → List (DataW H) → Bool := fun _ ds => decide (uptoBulkAll ds ≤ 1048576)
def OpenSpec.upto (s : _root_.Go.ChangeSpec) : _root_.Go.OpenSpec := { _root_.Go.OpenSpec.ofChange s with cond := some uptoSmall }

/-- 'simulacrumlaw04.IsaEncodesAsSpecified', WHERE WHAT IT READS IS OF BULK AT MOST 1048576: true; the input reads as it did. -/
def isaEncodesAsSpecifiedUptoRow : OpenClaim := { program := "ytbnlpkjjdijfmabdoor", sum := "903eab9fd0c1bd6c62b39722299dd9e6476bb864079d96ac5d38dc49cdcab161", func := "simulacrum/simulacrumlaw04.IsaEncodesAsSpecified", spec := "isaEncodesAsSpecified", unfollowed := true, recurses := true, named := ["simulacrum/isa.operations"], apart := false, laid := [("simulacrum/isa.operations", laid_simulacrum_isa_operations)], narrowed := true }
def IsaEncodesAsSpecifiedUptoSaid : Prop := isaEncodesAsSpecifiedUptoRow.holds Tryd.pinned (OpenSpec.upto isaEncodesAsSpecifiedSpec)

/-- 'simulacrumlaw04.IsaDecodesAsSpecified', WHERE WHAT IT READS IS OF BULK AT MOST 1048576: true; the input reads as it did. -/
def isaDecodesAsSpecifiedUptoRow : OpenClaim := { program := "ytbnlpkjjdijfmabdoor", sum := "903eab9fd0c1bd6c62b39722299dd9e6476bb864079d96ac5d38dc49cdcab161", func := "simulacrum/simulacrumlaw04.IsaDecodesAsSpecified", spec := "isaDecodesAsSpecified", unfollowed := true, recurses := true, named := ["simulacrum/isa.operations"], apart := false, laid := [("simulacrum/isa.operations", laid_simulacrum_isa_operations)], narrowed := true }
def IsaDecodesAsSpecifiedUptoSaid : Prop := isaDecodesAsSpecifiedUptoRow.holds Tryd.pinned (OpenSpec.upto isaDecodesAsSpecifiedSpec)

/-- 'simulacrumlaw04.IsaNamesAsSpecified', WHERE WHAT IT READS IS OF BULK AT MOST 1048576: true; the input reads as it did. -/
def isaNamesAsSpecifiedUptoRow : OpenClaim := { program := "ytbnlpkjjdijfmabdoor", sum := "903eab9fd0c1bd6c62b39722299dd9e6476bb864079d96ac5d38dc49cdcab161", func := "simulacrum/simulacrumlaw04.IsaNamesAsSpecified", spec := "isaNamesAsSpecified", unfollowed := true, recurses := true, named := ["simulacrum/isa.operations"], apart := false, laid := [("simulacrum/isa.operations", laid_simulacrum_isa_operations)], narrowed := true }
def IsaNamesAsSpecifiedUptoSaid : Prop := isaNamesAsSpecifiedUptoRow.holds Tryd.pinned (OpenSpec.upto isaNamesAsSpecifiedSpec)

/-- 'simulacrumlaw04.IsaWordsAreOneToOne', WHERE WHAT IT READS IS OF BULK AT MOST 1048576: true; the input reads as it did. -/
def isaWordsAreOneToOneUptoRow : OpenClaim := { program := "ytbnlpkjjdijfmabdoor", sum := "903eab9fd0c1bd6c62b39722299dd9e6476bb864079d96ac5d38dc49cdcab161", func := "simulacrum/simulacrumlaw04.IsaWordsAreOneToOne", spec := "isaWordsAreOneToOne", unfollowed := true, recurses := true, named := ["simulacrum/isa.operations"], apart := false, laid := [("simulacrum/isa.operations", laid_simulacrum_isa_operations)], narrowed := true }
def IsaWordsAreOneToOneUptoSaid : Prop := isaWordsAreOneToOneUptoRow.holds Tryd.pinned (OpenSpec.upto isaWordsAreOneToOneSpec)

/-- 'simulacrumlaw04.IsaNamesAreOneToOne', WHERE WHAT IT READS IS OF BULK AT MOST 1048576: true; the input reads as it did. -/
def isaNamesAreOneToOneUptoRow : OpenClaim := { program := "ytbnlpkjjdijfmabdoor", sum := "903eab9fd0c1bd6c62b39722299dd9e6476bb864079d96ac5d38dc49cdcab161", func := "simulacrum/simulacrumlaw04.IsaNamesAreOneToOne", spec := "isaNamesAreOneToOne", unfollowed := true, recurses := true, named := ["simulacrum/isa.operations"], apart := false, laid := [("simulacrum/isa.operations", laid_simulacrum_isa_operations)], narrowed := true }
def IsaNamesAreOneToOneUptoSaid : Prop := isaNamesAreOneToOneUptoRow.holds Tryd.pinned (OpenSpec.upto isaNamesAreOneToOneSpec)

/-- 'simulacrumlaw04.IsaTargetsTurnBack', WHERE WHAT IT READS IS OF BULK AT MOST 1048576: true; the input reads as it did. -/
def isaTargetsTurnBackUptoRow : OpenClaim := { program := "ytbnlpkjjdijfmabdoor", sum := "903eab9fd0c1bd6c62b39722299dd9e6476bb864079d96ac5d38dc49cdcab161", func := "simulacrum/simulacrumlaw04.IsaTargetsTurnBack", spec := "isaTargetsTurnBack", unfollowed := true, recurses := true, named := ["simulacrum/isa.operations"], apart := false, laid := [("simulacrum/isa.operations", laid_simulacrum_isa_operations)], narrowed := true }
def IsaTargetsTurnBackUptoSaid : Prop := isaTargetsTurnBackUptoRow.holds Tryd.pinned (OpenSpec.upto isaTargetsTurnBackSpec)

end Rows
end Go.Proofs.YtbnlpkjjdijfmabDoor
