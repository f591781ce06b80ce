/-
  THE TABLE OF OPERATIONS IN MEMORY.
-/
import Derived.Test.YtbnlpkjjdijfmabDoorArgs
import Derived.Test.YtbnlpkjjdijfmabDoorIsaMath
namespace Go.Proofs.YtbnlpkjjdijfmabDoor
open Go.RowKit Go.ChangeShapes Go.WideShapes Go.ChangeAt

/-- The table's cells: name and form, an operation after the other. -/
def opCells : List Value := (List.range 49).flatMap fun k => [.string (Im.nameN k), .int .i64 (Im.formN k : Nat)]
theorem opCells_len : opCells.length = 98 := by decide +kernel
theorem flat2 {α : Type} (f g : Nat → α) (n : Nat) : ∀ s k, k < n → ((List.range' s n).flatMap fun k => [f k, g k])[2 * k]? = some (f (s + k)) ∧ ((List.range' s n).flatMap fun k => [f k, g k])[2 * k + 1]? = some (g (s + k)) := by
  induction n with
  | zero => intro s k h; omega
  | succ n ih =>
    intro s k h
    rw [List.range'_succ, List.flatMap_cons]
    rcases k with _ | k
    · simp
    · have := ih (s + 1) k (by omega)
      rw [show s + 1 + k = s + (k + 1) by omega] at this
      rw [show 2 * (k + 1) = 2 * k + 2 by omega, show 2 * k + 2 + 1 = (2 * k + 1) + 2 by omega]
      simpa using this
theorem opCell0 {k : Nat} (h : k < 49) : opCells[2 * k]? = some (.string (Im.nameN k)) := by
  have := (flat2 (fun k => Value.string (Im.nameN k)) (fun k => Value.int .i64 (Im.formN k : Nat)) 49 0 k h).1
  rw [Nat.zero_add, ← List.range_eq_range'] at this
  exact this
theorem opCell1 {k : Nat} (h : k < 49) : opCells[2 * k + 1]? = some (.int .i64 (Im.formN k : Nat)) := by
  have := (flat2 (fun k => Value.string (Im.nameN k)) (fun k => Value.int .i64 (Im.formN k : Nat)) 49 0 k h).2
  rw [Nat.zero_add, ← List.range_eq_range'] at this
  exact this
/-- The table lies in its variable. -/
def Tab (w : World) : Prop := ∃ t fr, w.heap[0]? = some (.cells opCells.toArray t fr)
theorem Tab.lt {w : World} (h : Tab w) : 0 < w.heap.size := by
  obtain ⟨t, fr, h⟩ := h
  rcases Nat.lt_or_ge 0 w.heap.size with h1 | h1
  · exact h1
  · rw [Array.getElem?_eq_none h1] at h; cases h
theorem Tab.keep {w w' : World} (h : Tab w) (hb : Later w w') : Tab w' := by
  obtain ⟨t, fr, h1⟩ := h
  exact ⟨t, fr, by rw [hb.block 0 (Tab.lt ⟨t, fr, h1⟩)]; exact h1⟩
theorem Tab.cell {w : World} (h : Tab w) (j : Nat) : w.cell? ⟨0, j, none⟩ = opCells[j]? := by
  obtain ⟨t, fr, h⟩ := h
  unfold World.cell?
  rw [show w.heap[0]? = _ from h]
  simp
theorem gTab : Tryd.prog.globalNamed "simulacrum/isa.operations" = some 0 := by kernel_rfl
theorem tab_data : (Rows.laid_simulacrum_isa_operations : DataW Unit) = .agg ((List.range 49).map fun k => .agg [.lit (.string (Im.nameN k).data.toList), .lit (.int .i64 (Im.formN k : Nat))]) := by kernel_rfl
theorem tab_of {W : World} {rest : List (String × DataW Unit)} (h : laidMet Tryd.prog (("simulacrum/isa.operations", Rows.laid_simulacrum_isa_operations) :: rest) W) : Tab W := by
  obtain ⟨g, t, cs, fuel, p, h1, h2, h3, h4⟩ := Lib.laidMet.reads h (.head _)
  rw [gTab] at h1
  cases h1
  have ht : (Tryd.prog.globals[0]?).map (·.type) = some 72 := by kernel_rfl
  rw [ht] at h2
  cases h2
  rw [tab_data] at h4
  have hc2 : Tryd.prog.cellsOf 68 = 2 := by kernel_rfl
  obtain ⟨f0, f1, hs, o0, o1, t0, t1⟩ : ∃ f0 f1 : Field, Tryd.prog.underlying 68 = some (.struct #[f0, f1]) ∧ f0.offset = 0 ∧ f1.offset = 1 ∧ f0.type = 9 ∧ f1.type = 3 := ⟨_, _, Tryd.underlying68, rfl, rfl, rfl, rfl⟩
  have c1 : Tryd.prog.cellsOf 9 = 1 := by kernel_rfl
  have c2 : Tryd.prog.cellsOf 3 = 1 := by kernel_rfl
  have hcells : ∀ k, k < 49 → cs.toList[2 * k]? = some (.string (Im.nameN k)) ∧ cs.toList[2 * k + 1]? = some (.int .i64 (Im.formN k : Nat)) := by
    intro k hk
    obtain ⟨fuel', d, q, hd, hx⟩ := Lib.array_elem Tryd.underlying72 h4 k hk
    rw [List.getElem?_map, List.getElem?_range hk] at hd
    cases hd
    rw [hc2] at hx
    obtain ⟨y0, y1, n, he, hl, hy0, hy1⟩ := trod_struct2 hs hx
    rw [o0, t0, c1] at hy0
    rw [o1, t1, c2] at hy1
    obtain ⟨s, hs1, rfl, _⟩ := DataW.trod_string Tryd.underlying9 hy0
    obtain ⟨z, hz1, rfl, _⟩ := DataW.trod_int Tryd.underlying3 hy1
    simp only [Prod.mk.injEq, DataW.agg.injEq, List.cons.injEq, DataW.lit.injEq, Lit.string.injEq, Lit.int.injEq, and_true, true_and] at he
    obtain ⟨⟨e1, e2⟩, _⟩ := he
    have e3 : s = Im.nameN k := by
      apply ByteArray.ext
      apply Array.ext'
      exact e1.symm
    subst e3 e2
    have a := congrArg (·[0]?) hs1
    have b := congrArg (·[0]?) hz1
    simp only [List.getElem?_take, List.getElem?_drop] at a b
    refine ⟨?_, ?_⟩
    · rw [Nat.mul_comm]; simpa using a
    · rw [Nat.mul_comm]; simpa using b
  have hlen : cs.toList.length = 98 := by
    obtain ⟨fuel', h5⟩ : ∃ f, f = fuel := ⟨_, rfl⟩
    cases fuel with
    | zero => simp [DataW.trod] at h4
    | succ fuel =>
      simp only [DataW.trod, Tryd.underlying72] at h4
      split at h4
      · rename_i hl
        exact hl.trans (by kernel_rfl)
      · cases h4
  have hcs : cs = opCells.toArray := by
    apply Array.ext'
    apply List.ext_getElem?
    intro j
    rcases Nat.lt_or_ge j 98 with hj | hj
    · obtain ⟨k, hk⟩ : ∃ k, k = j / 2 := ⟨_, rfl⟩
      have h6 := hcells k (by omega)
      have h7 := opCell0 (k := k) (by omega)
      have h8 := opCell1 (k := k) (by omega)
      rcases Nat.mod_two_eq_zero_or_one j with e | e
      · obtain rfl : j = 2 * k := by omega
        rw [h6.1]; exact h7.symm
      · obtain rfl : j = 2 * k + 1 := by omega
        rw [h6.2]; exact h8.symm
    · rw [List.getElem?_eq_none (by omega), List.getElem?_eq_none (by rw [List.toList_toArray, opCells_len]; exact hj)]
  unfold World.var? at h3
  rw [gTab] at h3
  simp only [Option.bind_some] at h3
  split at h3
  · rename_i c t fr hh
    cases h3
    exact ⟨t, fr, by rw [hh, hcs]⟩
  · cases h3
end Go.Proofs.YtbnlpkjjdijfmabDoor
