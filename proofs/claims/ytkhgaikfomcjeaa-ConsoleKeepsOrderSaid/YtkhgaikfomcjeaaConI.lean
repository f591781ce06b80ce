/-
  A CONSOLE: what is asked, as an argument; held regions strengthened.
-/
import Derived.Test.YtkhgaikfomcjeaaConH
import Derived.Deep.RegionHeld
namespace Go.Proofs.Ytkhgaikfomcjeaa
open Go.RowKit Go.ChangeShapes Go.WideShapes Go.ChangeAt

section
variable {H : Type} {enc : TypeId × Value → H} {W : World} {r : Reach} {b0 : Nat} {v : Value} {d : DataW H} {p : List MemPlace}
theorem io_trod {n : Nat} {cs : List Value} {y : DataW H × List MemPlace} (h : DataW.trod enc Try.prog W 0 (fun _ => true) true n 26 cs = some y) : ∃ (inn : Bool) (p v : Int), cs = [.bool inn, .int .i64 p, .int .u32 v] ∧ i64 p ∧ Tm.isE v := by
  obtain ⟨y0, y1, y2, m, _, hl, k0, k1, k2⟩ := Deep.trod_struct3 Try.underlying26 h
  rw [show Try.prog.cellsOf 4 = 1 by kernel_rfl] at k0
  rw [show Try.prog.cellsOf 3 = 1 by kernel_rfl] at k1
  rw [show Try.prog.cellsOf 24 = 1 by kernel_rfl] at k2
  rw [show Try.prog.cellsOf 26 = 3 by kernel_rfl] at hl
  obtain ⟨z0, e0, _⟩ := DataW.trod_bool Try.underlying4 k0
  obtain ⟨z1, e1, _, w1⟩ := DataW.trod_int Try.underlying3 k1
  obtain ⟨z2, e2, _, w2⟩ := DataW.trod_int Try.underlying24 k2
  have a0 : IntKind.i64.min = -9223372036854775808 := rfl
  have a1 : IntKind.i64.max = 9223372036854775807 := rfl
  have a2 : IntKind.u32.min = 0 := rfl
  have a3 : IntKind.u32.max = 4294967295 := rfl
  simp only [Lit.wf, Bool.and_eq_true, decide_eq_true_eq] at w1 w2
  refine ⟨z0, z1, z2, ?_, ⟨by omega, by omega⟩, ⟨by omega, by omega⟩⟩
  match cs, hl with
  | [a, b, c], _ =>
    simp at e0 e1 e2
    rw [e0, e1, e2]
theorem io_open (hv : Value.okWide Try.prog W r b0 26 v) (h : DataW.Trod enc Try.prog W 0 (fun _ => true) true 26 v d p) : ∃ (inn : Bool) (q u : Int), v = .agg #[.bool inn, .int .i64 q, .int .u32 u] ∧ i64 q ∧ Tm.isE u := by
  obtain ⟨cs, rfl, hsz⟩ := okWide_struct Try.underlying26 hv
  obtain ⟨fuel, hf⟩ := h
  obtain ⟨inn, q, u, h3, h4⟩ := io_trod hf
  refine ⟨inn, q, u, ?_, h4⟩
  have h5 : cs.toList = [.bool inn, .int .i64 q, .int .u32 u] := h3
  rw [← h5]
end
theorem io_sz (inn : Bool) (p v : Int) : (Try.prog.info? 26).map (·.size) = some (ioC inn p v).length := by
  show _ = some 3
  kernel_rfl
theorem wpAnyH_more0 {P : Program} {md : Region.Mode} {ops : Array Oper} {Q : Exit → Act → World → Prop} {S S' : World → Prop} (h : ∀ w, S' w → S w) : ∀ (fuel : Nat) (listed : Array Bool) (a : Act) (w : World), wpAnyH P md ops Q S' fuel listed a w → wpAnyH P md ops Q S fuel listed a w
  | 0, _, _, _, k => k
  | fuel + 1, _, _, _, k => ⟨k.1, fun i hi => wpOp_mono (fun a' w' h' => ⟨h _ h'.1, wpAnyH_more0 h fuel _ a' w' h'.2⟩) (k.2 i hi)⟩
theorem wpAnyH_more {P : Program} {md : Region.Mode} {ops : Array Oper} {Q : Exit → Act → World → Prop} {S S' : World → Prop} {fuel : Nat} {listed : Array Bool} {a : Act} {w : World} (h : ∀ w, S' w → S w) (k : wpAnyH P md ops Q S' fuel listed a w) : wpAnyH P md ops Q S fuel listed a w := wpAnyH_more0 h fuel listed a w k
end Go.Proofs.Ytkhgaikfomcjeaa
