/-
  No cell of these rows narrows 'for every input' (looked for: loops, veiled, ifaces, maps, wideKeys, modest, calm, conditions, laid).
  DERIVED. THE GIVEN ROWS OF THIS SEAT. 5 by the template 'for every input the law returns true; each argument reads behind the call as it read before'; 0 by the template 'total and deterministic' (their statements: YtempcbdlaoblhabTotals.lean).
  GIVEN WITH THE SEED: the statements are not yours to turn. If you find one false, say at which input.
  Laid BY PROGRAM, IN A SANDBOX (cutbox-rows.mjs): the forced cells as the released guide's own fill.sh prints them over the translation 7dcaa83500879a55… (all of the seat's roots in one cut). By AI agents, Wed Nov 11 2026. No macro, syntax, notation, axiom, sorry.
-/
import Derived.Test.YtempcbdlaoblhabChecked
import GoSem.Claim
import GoSem.ClaimJoined
import GoSem.ClaimMapViews
import Derived.JoinedTies
import Derived.KernelRfl
namespace Go.Proofs.Ytempcbdlaoblhab
/- THE CELL 'sum', in the pinned program and in every row, IS THE sha256 OF THE DUMP (.gsa) THAT YtempcbdlaoblhabProg.lean LOADS. Nothing in Lean hashes anything: it is a label: what it is worth is what the hold of that sum in a sandbox is worth. -/
noncomputable def Try.pinned : Pinned := { name := "ytempcbdlaoblhab", sum := "7dcaa83500879a55a2ce3ae62ac625b5c6df0b26428fda8bfbd26eb5c6828caa", checked := Try.checked }
namespace Rows
def none {H : Type} : Left H := { results := [], args := [] }

/-- 'simulacrumlaw10.TableWalksAsSpecified': WHATEVER THE INPUT: true; the input reads as it did. -/
def tableWalksAsSpecifiedSpec : ChangeSpec := { name := "tableWalksAsSpecified", fn := fun _ => fun
  | [d1, d2, d3, d4, d5] => { results := [.lit (.bool true)], args := [d1, d2, d3, d4, d5] }
  | _ => none }
def tableWalksAsSpecifiedRow : OpenClaim := { program := "ytempcbdlaoblhab", sum := "7dcaa83500879a55a2ce3ae62ac625b5c6df0b26428fda8bfbd26eb5c6828caa", func := "simulacrum/simulacrumlaw10.TableWalksAsSpecified", spec := "tableWalksAsSpecified", unfollowed := true, recurses := true, apart := false }
def TableWalksAsSpecifiedSaid : Prop := tableWalksAsSpecifiedRow.holds Try.pinned (OpenSpec.ofChange tableWalksAsSpecifiedSpec)

/-- ITS FALSE NEIGHBOUR: 'it returns false'. Refute it at one input. -/
def tableWalksAsSpecifiedWrong : ChangeSpec := { name := "tableWalksAsSpecified", fn := fun _ => fun
  | [d1, d2, d3, d4, d5] => { results := [.lit (.bool false)], args := [d1, d2, d3, d4, d5] }
  | _ => none }
def TableWalksAsSpecifiedWrongFalsely : Prop := tableWalksAsSpecifiedRow.holds Try.pinned (OpenSpec.ofChange tableWalksAsSpecifiedWrong)

/-- 'simulacrumlaw10.TableBuildsAsSpecified': WHATEVER THE INPUT: true; the input reads as it did. -/
def tableBuildsAsSpecifiedSpec : ChangeSpec := { name := "tableBuildsAsSpecified", fn := fun _ => fun
  | [d1, d2, d3, d4, d5, d6] => { results := [.lit (.bool true)], args := [d1, d2, d3, d4, d5, d6] }
  | _ => none }
def tableBuildsAsSpecifiedRow : OpenClaim := { program := "ytempcbdlaoblhab", sum := "7dcaa83500879a55a2ce3ae62ac625b5c6df0b26428fda8bfbd26eb5c6828caa", func := "simulacrum/simulacrumlaw10.TableBuildsAsSpecified", spec := "tableBuildsAsSpecified", unfollowed := true, recurses := true, apart := false }
def TableBuildsAsSpecifiedSaid : Prop := tableBuildsAsSpecifiedRow.holds Try.pinned (OpenSpec.ofChange tableBuildsAsSpecifiedSpec)

/-- ITS FALSE NEIGHBOUR: 'it returns false'. Refute it at one input. -/
def tableBuildsAsSpecifiedWrong : ChangeSpec := { name := "tableBuildsAsSpecified", fn := fun _ => fun
  | [d1, d2, d3, d4, d5, d6] => { results := [.lit (.bool false)], args := [d1, d2, d3, d4, d5, d6] }
  | _ => none }
def TableBuildsAsSpecifiedWrongFalsely : Prop := tableBuildsAsSpecifiedRow.holds Try.pinned (OpenSpec.ofChange tableBuildsAsSpecifiedWrong)

/-- 'simulacrumlaw10.TableStaysInMemory': WHATEVER THE INPUT: true; the input reads as it did. -/
def tableStaysInMemorySpec : ChangeSpec := { name := "tableStaysInMemory", fn := fun _ => fun
  | [d1, d2, d3, d4, d5] => { results := [.lit (.bool true)], args := [d1, d2, d3, d4, d5] }
  | _ => none }
def tableStaysInMemoryRow : OpenClaim := { program := "ytempcbdlaoblhab", sum := "7dcaa83500879a55a2ce3ae62ac625b5c6df0b26428fda8bfbd26eb5c6828caa", func := "simulacrum/simulacrumlaw10.TableStaysInMemory", spec := "tableStaysInMemory", unfollowed := true, recurses := true, apart := false }
def TableStaysInMemorySaid : Prop := tableStaysInMemoryRow.holds Try.pinned (OpenSpec.ofChange tableStaysInMemorySpec)

/-- ITS FALSE NEIGHBOUR: 'it returns false'. Refute it at one input. -/
def tableStaysInMemoryWrong : ChangeSpec := { name := "tableStaysInMemory", fn := fun _ => fun
  | [d1, d2, d3, d4, d5] => { results := [.lit (.bool false)], args := [d1, d2, d3, d4, d5] }
  | _ => none }
def TableStaysInMemoryWrongFalsely : Prop := tableStaysInMemoryRow.holds Try.pinned (OpenSpec.ofChange tableStaysInMemoryWrong)

/-- 'simulacrumlaw10.TableRightsAreOrdered': WHATEVER THE INPUT: true; the input reads as it did. -/
def tableRightsAreOrderedSpec : ChangeSpec := { name := "tableRightsAreOrdered", fn := fun _ => fun
  | [d1, d2, d3] => { results := [.lit (.bool true)], args := [d1, d2, d3] }
  | _ => none }
def tableRightsAreOrderedRow : OpenClaim := { program := "ytempcbdlaoblhab", sum := "7dcaa83500879a55a2ce3ae62ac625b5c6df0b26428fda8bfbd26eb5c6828caa", func := "simulacrum/simulacrumlaw10.TableRightsAreOrdered", spec := "tableRightsAreOrdered", unfollowed := true, recurses := true, apart := false }
def TableRightsAreOrderedSaid : Prop := tableRightsAreOrderedRow.holds Try.pinned (OpenSpec.ofChange tableRightsAreOrderedSpec)

/-- ITS FALSE NEIGHBOUR: 'it returns false'. Refute it at one input. -/
def tableRightsAreOrderedWrong : ChangeSpec := { name := "tableRightsAreOrdered", fn := fun _ => fun
  | [d1, d2, d3] => { results := [.lit (.bool false)], args := [d1, d2, d3] }
  | _ => none }
def TableRightsAreOrderedWrongFalsely : Prop := tableRightsAreOrderedRow.holds Try.pinned (OpenSpec.ofChange tableRightsAreOrderedWrong)

/-- 'simulacrumlaw10.TableListIsTranslation': WHATEVER THE INPUT: true; the input reads as it did. -/
def tableListIsTranslationSpec : ChangeSpec := { name := "tableListIsTranslation", fn := fun _ => fun
  | [d1, d2, d3] => { results := [.lit (.bool true)], args := [d1, d2, d3] }
  | _ => none }
def tableListIsTranslationRow : OpenClaim := { program := "ytempcbdlaoblhab", sum := "7dcaa83500879a55a2ce3ae62ac625b5c6df0b26428fda8bfbd26eb5c6828caa", func := "simulacrum/simulacrumlaw10.TableListIsTranslation", spec := "tableListIsTranslation", unfollowed := true, recurses := true, apart := false }
def TableListIsTranslationSaid : Prop := tableListIsTranslationRow.holds Try.pinned (OpenSpec.ofChange tableListIsTranslationSpec)

/-- ITS FALSE NEIGHBOUR: 'it returns false'. Refute it at one input. -/
def tableListIsTranslationWrong : ChangeSpec := { name := "tableListIsTranslation", fn := fun _ => fun
  | [d1, d2, d3] => { results := [.lit (.bool false)], args := [d1, d2, d3] }
  | _ => none }
def TableListIsTranslationWrongFalsely : Prop := tableListIsTranslationRow.holds Try.pinned (OpenSpec.ofChange tableListIsTranslationWrong)

/- THE SECOND FORM. 'bulk': how many values and letters a reading holds, each counted each time it is reached (what is shared counts as often as it is met; a slice's spare places count too). A statement '..UptoSaid' is the law's where the arguments, and the package variables that the reading takes, are together of bulk at most 1048576: NARROWER than '..Said'. Prove '..Said' where nothing that the law and all that it calls make is longer than what came in: it says more and counts as full. Else prove '..UptoSaid'. A law counts once. -/
mutual
def uptoBulk {H : Type} : DataW H → Nat
  | .lit (.string bytes) => bytes.length + 1
  | .lit _ => 1
  | .nil => 1
  | .ptr d => uptoBulk d + 1
  | .slice elems spare => uptoBulkAll elems + uptoBulkAll spare + 1
  | .agg parts => uptoBulkAll parts + 1
  | .iface _ d => uptoBulk d + 1
  | .map entries => uptoBulkEntries entries + 1
  | .held _ => 1
def uptoBulkAll {H : Type} : List (DataW H) → Nat
  | [] => 0
  | d :: r => uptoBulk d + uptoBulkAll r
def uptoBulkEntries {H : Type} : List (Lit × DataW H) → Nat
  | [] => 0
  | x :: r => uptoBulkEntry x + uptoBulkEntries r
def uptoBulkEntry {H : Type} : Lit × DataW H → Nat
  | (.string bytes, d) => bytes.length + uptoBulk d + 1
  | (_, d) => uptoBulk d + 1
 end
def uptoSmall : (H : Type) → List (DataW H) → Bool := fun _ ds => decide (uptoBulkAll ds ≤ 1048576)
def OpenSpec.upto (s : _root_.Go.ChangeSpec) : _root_.Go.OpenSpec := { _root_.Go.OpenSpec.ofChange s with cond := some uptoSmall }

/-- 'simulacrumlaw10.TableWalksAsSpecified', WHERE WHAT IT READS IS OF BULK AT MOST 1048576: true; the input reads as it did. -/
def tableWalksAsSpecifiedUptoRow : OpenClaim := { program := "ytempcbdlaoblhab", sum := "7dcaa83500879a55a2ce3ae62ac625b5c6df0b26428fda8bfbd26eb5c6828caa", func := "simulacrum/simulacrumlaw10.TableWalksAsSpecified", spec := "tableWalksAsSpecified", unfollowed := true, recurses := true, apart := false, narrowed := true }
def TableWalksAsSpecifiedUptoSaid : Prop := tableWalksAsSpecifiedUptoRow.holds Try.pinned (OpenSpec.upto tableWalksAsSpecifiedSpec)

/-- 'simulacrumlaw10.TableBuildsAsSpecified', WHERE WHAT IT READS IS OF BULK AT MOST 1048576: true; the input reads as it did. -/
def tableBuildsAsSpecifiedUptoRow : OpenClaim := { program := "ytempcbdlaoblhab", sum := "7dcaa83500879a55a2ce3ae62ac625b5c6df0b26428fda8bfbd26eb5c6828caa", func := "simulacrum/simulacrumlaw10.TableBuildsAsSpecified", spec := "tableBuildsAsSpecified", unfollowed := true, recurses := true, apart := false, narrowed := true }
def TableBuildsAsSpecifiedUptoSaid : Prop := tableBuildsAsSpecifiedUptoRow.holds Try.pinned (OpenSpec.upto tableBuildsAsSpecifiedSpec)

/-- 'simulacrumlaw10.TableStaysInMemory', WHERE WHAT IT READS IS OF BULK AT MOST 1048576: true; the input reads as it did. -/
def tableStaysInMemoryUptoRow : OpenClaim := { program := "ytempcbdlaoblhab", sum := "7dcaa83500879a55a2ce3ae62ac625b5c6df0b26428fda8bfbd26eb5c6828caa", func := "simulacrum/simulacrumlaw10.TableStaysInMemory", spec := "tableStaysInMemory", unfollowed := true, recurses := true, apart := false, narrowed := true }
def TableStaysInMemoryUptoSaid : Prop := tableStaysInMemoryUptoRow.holds Try.pinned (OpenSpec.upto tableStaysInMemorySpec)

/-- 'simulacrumlaw10.TableRightsAreOrdered', WHERE WHAT IT READS IS OF BULK AT MOST 1048576: true; the input reads as it did. -/
def tableRightsAreOrderedUptoRow : OpenClaim := { program := "ytempcbdlaoblhab", sum := "7dcaa83500879a55a2ce3ae62ac625b5c6df0b26428fda8bfbd26eb5c6828caa", func := "simulacrum/simulacrumlaw10.TableRightsAreOrdered", spec := "tableRightsAreOrdered", unfollowed := true, recurses := true, apart := false, narrowed := true }
def TableRightsAreOrderedUptoSaid : Prop := tableRightsAreOrderedUptoRow.holds Try.pinned (OpenSpec.upto tableRightsAreOrderedSpec)

/-- 'simulacrumlaw10.TableListIsTranslation', WHERE WHAT IT READS IS OF BULK AT MOST 1048576: true; the input reads as it did. -/
def tableListIsTranslationUptoRow : OpenClaim := { program := "ytempcbdlaoblhab", sum := "7dcaa83500879a55a2ce3ae62ac625b5c6df0b26428fda8bfbd26eb5c6828caa", func := "simulacrum/simulacrumlaw10.TableListIsTranslation", spec := "tableListIsTranslation", unfollowed := true, recurses := true, apart := false, narrowed := true }
def TableListIsTranslationUptoSaid : Prop := tableListIsTranslationUptoRow.holds Try.pinned (OpenSpec.upto tableListIsTranslationSpec)

end Rows
end Go.Proofs.Ytempcbdlaoblhab
