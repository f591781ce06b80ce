/-
  Lists read back, whatever follows: the walk of WireListRoundTrip.
-/
import Derived.Test.YtoigpokmlohhkaaWireP8
namespace Go.Proofs.Ytoigpokmlohhkaa
open Go.RowKit Go.ChangeShapes Go.WideShapes Go.ChangeAt

theorem encT_eq (l : List ByteArray) : Wm.encL encT l = Wm.encL Wm.encB (l.map Wm.ofS) := by
  unfold Wm.encL
  rw [List.length_map, List.flatMap_map]
  rfl
theorem strs_same (l : List ByteArray) : (l.map Wm.ofS).map strOfNums = l := by
  induction l with
  | nil => rfl
  | cons x r ih => rw [List.map_cons, List.map_cons, ih, Wm.str_ofS]

end Go.Proofs.Ytoigpokmlohhkaa
