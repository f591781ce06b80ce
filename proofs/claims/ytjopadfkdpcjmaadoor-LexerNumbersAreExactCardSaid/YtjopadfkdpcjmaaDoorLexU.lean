/-
  THE TABLES OF A ROW: the powers of ten; the world of the witness.
-/
import Derived.Test.YtjopadfkdpcjmaaDoorLexO
import Derived.Test.YtjopadfkdpcjmaaDoorLexR
import Derived.Test.YtjopadfkdpcjmaaDoorArgs
import Derived.Stop.LaidErr
namespace Go.Proofs.YtjopadfkdpcjmaaDoor
open Go.RowKit Go.ChangeShapes Go.WideShapes Go.ChangeAt

theorem pow_data : (Rows.laid_internal_strconv_uint64pow10 : DataW Unit) = Lib.tabData .u64 Lib.pow10Tab := by kernel_rfl
theorem gPow : Tryd.prog.globalNamed "internal/strconv.uint64pow10" = some 1 := by kernel_rfl
theorem tab10_of {W : World} {a b : String × DataW Unit} {rest : List (String × DataW Unit)} (h : laidMet Tryd.prog (a :: b :: ("internal/strconv.uint64pow10", Rows.laid_internal_strconv_uint64pow10) :: rest) W) :
    Lib.TabIs Tryd.prog W "internal/strconv.uint64pow10" .u64 Lib.pow10Tab := by
  have h := h.tail.tail
  rw [pow_data] at h
  have ht : ∃ t e : TypeId, (Tryd.prog.globals[1]?).map (·.type) = some t ∧ Tryd.prog.underlying t = some (.array 20 e) ∧ Tryd.prog.underlying e = some (.int .u64) ∧ Tryd.prog.cellsOf e = 1 ∧ Tryd.prog.cellsOf t = 20 :=
    ⟨133, 99, by kernel_rfl, by kernel_rfl, by kernel_rfl, by kernel_rfl, by kernel_rfl⟩
  obtain ⟨t, e, h1, h2, h3, h4, h5⟩ := ht
  exact Lib.tabIs_of_head gPow h1 h2 h3 h4 h5 h
noncomputable def leafV : DataW Unit → Value
  | .lit (.int k z) => .int k z
  | _ => undef
noncomputable def flat1 : DataW Unit → List Value
  | .agg l => l.map leafV
  | _ => []
noncomputable def flat2 : DataW Unit → List Value
  | .agg l => l.flatMap flat1
  | _ => []
noncomputable def layC (l : List Value) (o : Obj) : Obj := match o with
  | .cells _ t frozen => .cells l.toArray t frozen
  | o => o
/-- A world for the witness. -/
noncomputable def laidWorld (os : Os) : World :=
  { World.holding Tryd.prog os ⟨#[], #[], []⟩ with heap := ((((((World.holding Tryd.prog os ⟨#[], #[], []⟩).heap.modify 1 (layC (flat1 Rows.laid_internal_strconv_uint64pow10))).modify 2 (layC (flat1 Rows.laid_unicode_utf8_first))).modify 3 (layC (flat2 Rows.laid_unicode_utf8_acceptRanges))).modify 4 (layC (flat1 Rows.laid_math_bits_deBruijn32tab))).modify 5 (layC (flat1 Rows.laid_math_bits_deBruijn64tab))) }
end Go.Proofs.YtjopadfkdpcjmaaDoor
