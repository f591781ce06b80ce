/-
  BOTH TABLES: the reference's constants and the program's, from a row's list; the world of the witness.
-/
import Derived.Test.YtoigpokmlohhkaaDoorHashRow
import Derived.Test.YtoigpokmlohhkaaDoorShaD
import Derived.Stop.LaidErr
namespace Go.Proofs.YtoigpokmlohhkaaDoor
open Go.RowKit Go.ChangeShapes Go.WideShapes Go.ChangeAt

theorem gTab0 : Tryd.prog.globalNamed "simulacrum/simulacrumref02.constants" = some 0 := by kernel_rfl
theorem tab0_data : (Rows.laid_simulacrum_simulacrumref02_constants : DataW Unit) = Lib.tabData .u32 (Hs.K.map q32) := by kernel_rfl
theorem tab0_of {W : World} {rest : List (String × DataW Unit)} (h : laidMet Tryd.prog (("simulacrum/simulacrumref02.constants", Rows.laid_simulacrum_simulacrumref02_constants) :: rest) W) : Tab0 W := by
  rw [tab0_data] at h
  have ht : ∃ t e : TypeId, (Tryd.prog.globals[0]?).map (·.type) = some t ∧ Tryd.prog.underlying t = some (.array 64 e) ∧ Tryd.prog.underlying e = some (.int .u32) ∧ Tryd.prog.cellsOf e = 1 ∧ Tryd.prog.cellsOf t = 64 :=
    ⟨101, 38, by kernel_rfl, by kernel_rfl, by kernel_rfl, by kernel_rfl, by kernel_rfl⟩
  obtain ⟨t, e, h1, h2, h3, h4, h5⟩ := ht
  have hT := Lib.tabIs_of_head gTab0 h1 h2 h3 h4 h5 h
  intro j hj
  have hc := hT.cell gTab0 j (by rw [List.length_map, K_len]; exact hj)
  rw [hc, List.getD_eq_getElem?_getD, List.getElem?_map, List.getD_eq_getElem?_getD, List.getElem?_eq_getElem (by rw [K_len]; exact hj)]
  rfl
theorem tabs_of {W : World} (h : laidMet Tryd.prog [("simulacrum/simulacrumref02.constants", Rows.laid_simulacrum_simulacrumref02_constants), ("simulacrum/hash.rounds", Rows.laid_simulacrum_hash_rounds)] W) : Tab0 W ∧ Tab W :=
  ⟨tab0_of h, tab_of h.tail⟩
noncomputable def layK (o : Obj) : Obj := match o with
  | .cells _ t frozen => .cells (W32 Hs.K).toArray t frozen
  | o => o
/-- A world for the witness. -/
noncomputable def laidWorld2 (os : Os) : World :=
  { World.holding Tryd.prog os ⟨#[], #[], []⟩ with heap := ((World.holding Tryd.prog os ⟨#[], #[], []⟩).heap.modify 1 layK).modify 0 layK }
end Go.Proofs.YtoigpokmlohhkaaDoor
