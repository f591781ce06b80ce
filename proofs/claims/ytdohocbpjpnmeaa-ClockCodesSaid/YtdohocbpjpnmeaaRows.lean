/-
  No cell of these rows narrows 'for every input' (looked for: loops, veiled, ifaces, maps, wideKeys, modest, calm, conditions, laid).
  DERIVED. THE GIVEN ROWS OF THIS SEAT. 7 by the template 'for every input the law returns true; each argument reads behind the call as it read before'; 0 by the template 'total and deterministic' (their statements: YtdohocbpjpnmeaaTotals.lean).
  GIVEN WITH THE SEED: the statements are not yours to turn. If you find one false, say at which input.
  Laid BY PROGRAM, IN A SANDBOX (cutbox-rows.mjs): the forced cells as the released guide's own fill.sh prints them over the translation 08dece9307ee7b37… (all of the seat's roots in one cut). By AI agents, Wed Nov 11 2026. No macro, syntax, notation, axiom, sorry.
-/
import Derived.Test.YtdohocbpjpnmeaaChecked
import GoSem.Claim
import GoSem.ClaimJoined
import GoSem.ClaimMapViews
import Derived.JoinedTies
import Derived.KernelRfl
namespace Go.Proofs.Ytdohocbpjpnmeaa
/- THE CELL 'sum', in the pinned program and in every row, IS THE sha256 OF THE DUMP (.gsa) THAT YtdohocbpjpnmeaaProg.lean LOADS. Nothing in Lean hashes anything: it is a label: what it is worth is what the hold of that sum in a sandbox is worth. -/
noncomputable def Try.pinned : Pinned := { name := "ytdohocbpjpnmeaa", sum := "08dece9307ee7b37ea2f87425b088738ff10dd48eb2d198f1f4d9a1e878f612f", checked := Try.checked }
namespace Rows
def none {H : Type} : Left H := { results := [], args := [] }

/-- 'simulacrumlaw14.ClockReadsAsSpecified': WHATEVER THE INPUT: true; the input reads as it did. -/
def clockReadsAsSpecifiedSpec : ChangeSpec := { name := "clockReadsAsSpecified", fn := fun _ => fun
  | [d1, d2, d3] => { results := [.lit (.bool true)], args := [d1, d2, d3] }
  | _ => none }
def clockReadsAsSpecifiedRow : OpenClaim := { program := "ytdohocbpjpnmeaa", sum := "08dece9307ee7b37ea2f87425b088738ff10dd48eb2d198f1f4d9a1e878f612f", func := "simulacrum/simulacrumlaw14.ClockReadsAsSpecified", spec := "clockReadsAsSpecified", apart := false }
def ClockReadsAsSpecifiedSaid : Prop := clockReadsAsSpecifiedRow.holds Try.pinned (OpenSpec.ofChange clockReadsAsSpecifiedSpec)

/-- ITS FALSE NEIGHBOUR: 'it returns false'. Refute it at one input. -/
def clockReadsAsSpecifiedWrong : ChangeSpec := { name := "clockReadsAsSpecified", fn := fun _ => fun
  | [d1, d2, d3] => { results := [.lit (.bool false)], args := [d1, d2, d3] }
  | _ => none }
def ClockReadsAsSpecifiedWrongFalsely : Prop := clockReadsAsSpecifiedRow.holds Try.pinned (OpenSpec.ofChange clockReadsAsSpecifiedWrong)

/-- 'simulacrumlaw14.ClockRingsAsSpecified': WHATEVER THE INPUT: true; the input reads as it did. -/
def clockRingsAsSpecifiedSpec : ChangeSpec := { name := "clockRingsAsSpecified", fn := fun _ => fun
  | [d1, d2, d3, d4] => { results := [.lit (.bool true)], args := [d1, d2, d3, d4] }
  | _ => none }
def clockRingsAsSpecifiedRow : OpenClaim := { program := "ytdohocbpjpnmeaa", sum := "08dece9307ee7b37ea2f87425b088738ff10dd48eb2d198f1f4d9a1e878f612f", func := "simulacrum/simulacrumlaw14.ClockRingsAsSpecified", spec := "clockRingsAsSpecified", apart := false }
def ClockRingsAsSpecifiedSaid : Prop := clockRingsAsSpecifiedRow.holds Try.pinned (OpenSpec.ofChange clockRingsAsSpecifiedSpec)

/-- ITS FALSE NEIGHBOUR: 'it returns false'. Refute it at one input. -/
def clockRingsAsSpecifiedWrong : ChangeSpec := { name := "clockRingsAsSpecified", fn := fun _ => fun
  | [d1, d2, d3, d4] => { results := [.lit (.bool false)], args := [d1, d2, d3, d4] }
  | _ => none }
def ClockRingsAsSpecifiedWrongFalsely : Prop := clockRingsAsSpecifiedRow.holds Try.pinned (OpenSpec.ofChange clockRingsAsSpecifiedWrong)

/-- 'simulacrumlaw14.ClockPortsAsSpecified': WHATEVER THE INPUT: true; the input reads as it did. -/
def clockPortsAsSpecifiedSpec : ChangeSpec := { name := "clockPortsAsSpecified", fn := fun _ => fun
  | [d1, d2, d3, d4] => { results := [.lit (.bool true)], args := [d1, d2, d3, d4] }
  | _ => none }
def clockPortsAsSpecifiedRow : OpenClaim := { program := "ytdohocbpjpnmeaa", sum := "08dece9307ee7b37ea2f87425b088738ff10dd48eb2d198f1f4d9a1e878f612f", func := "simulacrum/simulacrumlaw14.ClockPortsAsSpecified", spec := "clockPortsAsSpecified", apart := false }
def ClockPortsAsSpecifiedSaid : Prop := clockPortsAsSpecifiedRow.holds Try.pinned (OpenSpec.ofChange clockPortsAsSpecifiedSpec)

/-- ITS FALSE NEIGHBOUR: 'it returns false'. Refute it at one input. -/
def clockPortsAsSpecifiedWrong : ChangeSpec := { name := "clockPortsAsSpecified", fn := fun _ => fun
  | [d1, d2, d3, d4] => { results := [.lit (.bool false)], args := [d1, d2, d3, d4] }
  | _ => none }
def ClockPortsAsSpecifiedWrongFalsely : Prop := clockPortsAsSpecifiedRow.holds Try.pinned (OpenSpec.ofChange clockPortsAsSpecifiedWrong)

/-- 'simulacrumlaw14.ClockCodes': WHATEVER THE INPUT: true; the input reads as it did. -/
def clockCodesSpec : ChangeSpec := { name := "clockCodes", fn := fun _ => fun
  | [d1, d2] => { results := [.lit (.bool true)], args := [d1, d2] }
  | _ => none }
def clockCodesRow : OpenClaim := { program := "ytdohocbpjpnmeaa", sum := "08dece9307ee7b37ea2f87425b088738ff10dd48eb2d198f1f4d9a1e878f612f", func := "simulacrum/simulacrumlaw14.ClockCodes", spec := "clockCodes", unfollowed := true, recurses := true, apart := false }
def ClockCodesSaid : Prop := clockCodesRow.holds Try.pinned (OpenSpec.ofChange clockCodesSpec)

/-- ITS FALSE NEIGHBOUR: 'it returns false'. Refute it at one input. -/
def clockCodesWrong : ChangeSpec := { name := "clockCodes", fn := fun _ => fun
  | [d1, d2] => { results := [.lit (.bool false)], args := [d1, d2] }
  | _ => none }
def ClockCodesWrongFalsely : Prop := clockCodesRow.holds Try.pinned (OpenSpec.ofChange clockCodesWrong)

/-- 'simulacrumlaw14.ClockNeverGoesBack': WHATEVER THE INPUT: true; the input reads as it did. -/
def clockNeverGoesBackSpec : ChangeSpec := { name := "clockNeverGoesBack", fn := fun _ => fun
  | [d1, d2] => { results := [.lit (.bool true)], args := [d1, d2] }
  | _ => none }
def clockNeverGoesBackRow : OpenClaim := { program := "ytdohocbpjpnmeaa", sum := "08dece9307ee7b37ea2f87425b088738ff10dd48eb2d198f1f4d9a1e878f612f", func := "simulacrum/simulacrumlaw14.ClockNeverGoesBack", spec := "clockNeverGoesBack", apart := false }
def ClockNeverGoesBackSaid : Prop := clockNeverGoesBackRow.holds Try.pinned (OpenSpec.ofChange clockNeverGoesBackSpec)

/-- ITS FALSE NEIGHBOUR: 'it returns false'. Refute it at one input. -/
def clockNeverGoesBackWrong : ChangeSpec := { name := "clockNeverGoesBack", fn := fun _ => fun
  | [d1, d2] => { results := [.lit (.bool false)], args := [d1, d2] }
  | _ => none }
def ClockNeverGoesBackWrongFalsely : Prop := clockNeverGoesBackRow.holds Try.pinned (OpenSpec.ofChange clockNeverGoesBackWrong)

/-- 'simulacrumlaw14.ClockRingsOnce': WHATEVER THE INPUT: true; the input reads as it did. -/
def clockRingsOnceSpec : ChangeSpec := { name := "clockRingsOnce", fn := fun _ => fun
  | [d1, d2, d3, d4] => { results := [.lit (.bool true)], args := [d1, d2, d3, d4] }
  | _ => none }
def clockRingsOnceRow : OpenClaim := { program := "ytdohocbpjpnmeaa", sum := "08dece9307ee7b37ea2f87425b088738ff10dd48eb2d198f1f4d9a1e878f612f", func := "simulacrum/simulacrumlaw14.ClockRingsOnce", spec := "clockRingsOnce", apart := false }
def ClockRingsOnceSaid : Prop := clockRingsOnceRow.holds Try.pinned (OpenSpec.ofChange clockRingsOnceSpec)

/-- ITS FALSE NEIGHBOUR: 'it returns false'. Refute it at one input. -/
def clockRingsOnceWrong : ChangeSpec := { name := "clockRingsOnce", fn := fun _ => fun
  | [d1, d2, d3, d4] => { results := [.lit (.bool false)], args := [d1, d2, d3, d4] }
  | _ => none }
def ClockRingsOnceWrongFalsely : Prop := clockRingsOnceRow.holds Try.pinned (OpenSpec.ofChange clockRingsOnceWrong)

/-- 'simulacrumlaw14.ClockSetsAgain': WHATEVER THE INPUT: true; the input reads as it did. -/
def clockSetsAgainSpec : ChangeSpec := { name := "clockSetsAgain", fn := fun _ => fun
  | [d1, d2, d3, d4, d5, d6] => { results := [.lit (.bool true)], args := [d1, d2, d3, d4, d5, d6] }
  | _ => none }
def clockSetsAgainRow : OpenClaim := { program := "ytdohocbpjpnmeaa", sum := "08dece9307ee7b37ea2f87425b088738ff10dd48eb2d198f1f4d9a1e878f612f", func := "simulacrum/simulacrumlaw14.ClockSetsAgain", spec := "clockSetsAgain", apart := false }
def ClockSetsAgainSaid : Prop := clockSetsAgainRow.holds Try.pinned (OpenSpec.ofChange clockSetsAgainSpec)

/-- ITS FALSE NEIGHBOUR: 'it returns false'. Refute it at one input. -/
def clockSetsAgainWrong : ChangeSpec := { name := "clockSetsAgain", fn := fun _ => fun
  | [d1, d2, d3, d4, d5, d6] => { results := [.lit (.bool false)], args := [d1, d2, d3, d4, d5, d6] }
  | _ => none }
def ClockSetsAgainWrongFalsely : Prop := clockSetsAgainRow.holds Try.pinned (OpenSpec.ofChange clockSetsAgainWrong)

/- THE SECOND FORM. 'bulk': how many values and letters a reading holds, each counted each time it is reached (what is shared counts as often as it is met; a slice's spare places count too). A statement '..UptoSaid' is the law's where the arguments, and the package variables that the reading takes, are together of bulk at most 1048576: NARROWER than '..Said'. Prove '..Said' where nothing that the law and all that it calls make is longer than what came in: it says more and counts as full. Else prove '..UptoSaid'. A law counts once. -/
mutual
def uptoBulk {H : Type} : DataW H → Nat
  | .lit (.string bytes) => bytes.length + 1
  | .lit _ => 1
  | .nil => 1
  | .ptr d => uptoBulk d + 1
  | .slice elems spare => uptoBulkAll elems + uptoBulkAll spare + 1
  | .agg parts => uptoBulkAll parts + 1
  | .iface _ d => uptoBulk d + 1
  | .map entries => uptoBulkEntries entries + 1
  | .held _ => 1
def uptoBulkAll {H : Type} : List (DataW H) → Nat
  | [] => 0
  | d :: r => uptoBulk d + uptoBulkAll r
def uptoBulkEntries {H : Type} : List (Lit × DataW H) → Nat
  | [] => 0
  | x :: r => uptoBulkEntry x + uptoBulkEntries r
def uptoBulkEntry {H : Type} : Lit × DataW H → Nat
  | (.string bytes, d) => bytes.length + uptoBulk d + 1
  | (_, d) => uptoBulk d + 1
 end
def uptoSmall : (H : Type) → List (DataW H) → Bool := fun _ ds => decide (uptoBulkAll ds ≤ 1048576)
def OpenSpec.upto (s : _root_.Go.ChangeSpec) : _root_.Go.OpenSpec := { _root_.Go.OpenSpec.ofChange s with cond := some uptoSmall }

/-- 'simulacrumlaw14.ClockReadsAsSpecified', WHERE WHAT IT READS IS OF BULK AT MOST 1048576: true; the input reads as it did. -/
def clockReadsAsSpecifiedUptoRow : OpenClaim := { program := "ytdohocbpjpnmeaa", sum := "08dece9307ee7b37ea2f87425b088738ff10dd48eb2d198f1f4d9a1e878f612f", func := "simulacrum/simulacrumlaw14.ClockReadsAsSpecified", spec := "clockReadsAsSpecified", apart := false, narrowed := true }
def ClockReadsAsSpecifiedUptoSaid : Prop := clockReadsAsSpecifiedUptoRow.holds Try.pinned (OpenSpec.upto clockReadsAsSpecifiedSpec)

/-- 'simulacrumlaw14.ClockRingsAsSpecified', WHERE WHAT IT READS IS OF BULK AT MOST 1048576: true; the input reads as it did. -/
def clockRingsAsSpecifiedUptoRow : OpenClaim := { program := "ytdohocbpjpnmeaa", sum := "08dece9307ee7b37ea2f87425b088738ff10dd48eb2d198f1f4d9a1e878f612f", func := "simulacrum/simulacrumlaw14.ClockRingsAsSpecified", spec := "clockRingsAsSpecified", apart := false, narrowed := true }
def ClockRingsAsSpecifiedUptoSaid : Prop := clockRingsAsSpecifiedUptoRow.holds Try.pinned (OpenSpec.upto clockRingsAsSpecifiedSpec)

/-- 'simulacrumlaw14.ClockPortsAsSpecified', WHERE WHAT IT READS IS OF BULK AT MOST 1048576: true; the input reads as it did. -/
def clockPortsAsSpecifiedUptoRow : OpenClaim := { program := "ytdohocbpjpnmeaa", sum := "08dece9307ee7b37ea2f87425b088738ff10dd48eb2d198f1f4d9a1e878f612f", func := "simulacrum/simulacrumlaw14.ClockPortsAsSpecified", spec := "clockPortsAsSpecified", apart := false, narrowed := true }
def ClockPortsAsSpecifiedUptoSaid : Prop := clockPortsAsSpecifiedUptoRow.holds Try.pinned (OpenSpec.upto clockPortsAsSpecifiedSpec)

/-- 'simulacrumlaw14.ClockCodes', WHERE WHAT IT READS IS OF BULK AT MOST 1048576: true; the input reads as it did. -/
def clockCodesUptoRow : OpenClaim := { program := "ytdohocbpjpnmeaa", sum := "08dece9307ee7b37ea2f87425b088738ff10dd48eb2d198f1f4d9a1e878f612f", func := "simulacrum/simulacrumlaw14.ClockCodes", spec := "clockCodes", unfollowed := true, recurses := true, apart := false, narrowed := true }
def ClockCodesUptoSaid : Prop := clockCodesUptoRow.holds Try.pinned (OpenSpec.upto clockCodesSpec)

/-- 'simulacrumlaw14.ClockNeverGoesBack', WHERE WHAT IT READS IS OF BULK AT MOST 1048576: true; the input reads as it did. -/
def clockNeverGoesBackUptoRow : OpenClaim := { program := "ytdohocbpjpnmeaa", sum := "08dece9307ee7b37ea2f87425b088738ff10dd48eb2d198f1f4d9a1e878f612f", func := "simulacrum/simulacrumlaw14.ClockNeverGoesBack", spec := "clockNeverGoesBack", apart := false, narrowed := true }
def ClockNeverGoesBackUptoSaid : Prop := clockNeverGoesBackUptoRow.holds Try.pinned (OpenSpec.upto clockNeverGoesBackSpec)

/-- 'simulacrumlaw14.ClockRingsOnce', WHERE WHAT IT READS IS OF BULK AT MOST 1048576: true; the input reads as it did. -/
def clockRingsOnceUptoRow : OpenClaim := { program := "ytdohocbpjpnmeaa", sum := "08dece9307ee7b37ea2f87425b088738ff10dd48eb2d198f1f4d9a1e878f612f", func := "simulacrum/simulacrumlaw14.ClockRingsOnce", spec := "clockRingsOnce", apart := false, narrowed := true }
def ClockRingsOnceUptoSaid : Prop := clockRingsOnceUptoRow.holds Try.pinned (OpenSpec.upto clockRingsOnceSpec)

/-- 'simulacrumlaw14.ClockSetsAgain', WHERE WHAT IT READS IS OF BULK AT MOST 1048576: true; the input reads as it did. -/
def clockSetsAgainUptoRow : OpenClaim := { program := "ytdohocbpjpnmeaa", sum := "08dece9307ee7b37ea2f87425b088738ff10dd48eb2d198f1f4d9a1e878f612f", func := "simulacrum/simulacrumlaw14.ClockSetsAgain", spec := "clockSetsAgain", apart := false, narrowed := true }
def ClockSetsAgainUptoSaid : Prop := clockSetsAgainUptoRow.holds Try.pinned (OpenSpec.upto clockSetsAgainSpec)

end Rows
end Go.Proofs.Ytdohocbpjpnmeaa
