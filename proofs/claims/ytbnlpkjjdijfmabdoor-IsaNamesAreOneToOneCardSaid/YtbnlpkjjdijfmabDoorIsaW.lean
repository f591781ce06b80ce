/-
  THE WORLD OF THE WITNESS.
-/
import Derived.Test.YtbnlpkjjdijfmabDoorIsaTab
namespace Go.Proofs.YtbnlpkjjdijfmabDoor
open Go.RowKit Go.ChangeShapes Go.WideShapes Go.ChangeAt
/-- A world for the witness. -/
noncomputable def laidWorld (os : Os) : World :=
  { World.holding Tryd.prog os ⟨#[], #[], []⟩ with heap := (World.holding Tryd.prog os ⟨#[], #[], []⟩).heap.modify 0 fun
      | .cells _ t frozen => .cells opCells.toArray t frozen
      | o => o }
end Go.Proofs.YtbnlpkjjdijfmabDoor
