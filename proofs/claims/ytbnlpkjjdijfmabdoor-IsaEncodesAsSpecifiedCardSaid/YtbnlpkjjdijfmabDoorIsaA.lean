/-
  THE WALKS OF isa.about, Form, Name.
-/
import Derived.Test.YtbnlpkjjdijfmabDoorIsaTab
namespace Go.Proofs.YtbnlpkjjdijfmabDoor
open Go.RowKit Go.ChangeShapes Go.WideShapes Go.ChangeAt

theorem load_ops (w : World) (tab : Tab w) (k : Nat) (h : k < 49) : w.cell? ⟨0, k * 2, none⟩ = some (.string (Im.nameN k)) ∧ w.cell? ⟨0, k * 2 + 1, none⟩ = some (.int .i64 (Im.formN k : Nat)) := by
  rw [tab.cell, tab.cell, Nat.mul_comm]
  exact ⟨opCell0 h, opCell1 h⟩
theorem op_f0 (x y : Value) (w : World) : (Instr.field 68 (.agg #[x, y]) 0).run Tryd.prog w = .ok x w := by kernel_rfl
theorem op_f1 (x y : Value) (w : World) : (Instr.field 68 (.agg #[x, y]) 1).run Tryd.prog w = .ok y w := by kernel_rfl
theorem later1 (w : World) (o : Obj) : Later w (w.alloc o) := (Below.refl _ _).alloc (Nat.le_refl _) o
set_option maxRecDepth 100000 in
theorem op_ret {w : World} {fn : Func} {p : Tmp} (h : fn.results = #[.cell p 68]) (tmps : Array Value) (g : Nat) (t : TypeId) (x y : Value)
    (hp : tmps.getD p undef = .pointer (some ⟨g, 0, none⟩)) (hg : Blk w g t [x, y]) : (results fn tmps).run Tryd.prog w = .ok (.agg #[x, y]) w :=
  results_blk h tmps w g t [x, y] _ hp hg Tryd.underlying68 rfl (by kernel_rfl)
set_option maxRecDepth 100000 in
theorem about_any (op : Int) (w : World) (tab : Tab w) :
    Calls Tryd.prog 41 #[.int .i64 op] w fun e w' => e = .returned (.agg #[.string (Im.name op), .int .i64 (Im.form op)]) ∧ Later w w' := by
  rcases Classical.em (op < 0 ∨ 49 ≤ op) with h | h
  · rw [Im.name_out h, Im.form_out h]
    rcases h with h | h
    · go_enter Tryd.func41, Tryd.ntmps41
      go_wp2
      exact bodyPost_ret (v := .agg _) (op_ret Tryd.results41 _ w.heap.size _ _ _ rfl (Blk.new _ _ _ _ rfl)) rfl ⟨rfl, later1 _ _⟩
    · have h0 : ¬ op < 0 := by omega
      go_enter Tryd.func41, Tryd.ntmps41
      go_wp2
      exact bodyPost_ret (v := .agg _) (op_ret Tryd.results41 _ w.heap.size _ _ _ rfl (Blk.new _ _ _ _ rfl)) rfl ⟨rfl, later1 _ _⟩
  · obtain ⟨k, rfl⟩ := Int.eq_ofNat_of_zero_le (show 0 ≤ op by omega)
    have hk : k < 49 := by omega
    have c0 := fun o => (load_ops _ (tab.keep (later1 w o)) k hk).1
    have c1 := fun o => (load_ops _ (tab.keep (later1 w o)) k hk).2
    rw [Im.name_nat, Im.form_nat]
    have h0 : ¬ ((k : Int) < 0) := by omega
    have h1 : ¬ (49 ≤ (k : Int)) := by omega
    go_enter Tryd.func41, Tryd.ntmps41
    go_wp2
    exact bodyPost_ret (v := .agg _) (op_ret Tryd.results41 _ w.heap.size _ _ _ rfl (Blk.new _ _ _ _ rfl)) rfl ⟨rfl, later1 _ _⟩

set_option maxRecDepth 100000 in
theorem form_any (op : Int) (w : World) (tab : Tab w) : Calls Tryd.prog 25 #[.int .i64 op] w fun e w' => e = .returned (.int .i64 (Im.form op)) ∧ Later w w' := by
  have H := Lib.hid (about_any op w tab)
  have hf := op_f1
  clear tab
  go_enter Tryd.func25, Tryd.ntmps25
  go_wp2_with (go_at_call 41; refine H.out.mono ?_; rintro e w1 ⟨rfl, l1⟩)
  go_ret
  exact ⟨rfl, l1⟩
set_option maxRecDepth 100000 in
theorem name_any (op : Int) (w : World) (tab : Tab w) : Calls Tryd.prog 27 #[.int .i64 op] w fun e w' => e = .returned (.string (Im.name op)) ∧ Later w w' := by
  have H := Lib.hid (about_any op w tab)
  have hf := op_f0
  clear tab
  go_enter Tryd.func27, Tryd.ntmps27
  go_wp2_with (go_at_call 41; refine H.out.mono ?_; rintro e w1 ⟨rfl, l1⟩)
  go_ret
  exact ⟨rfl, l1⟩
end Go.Proofs.YtbnlpkjjdijfmabDoor
