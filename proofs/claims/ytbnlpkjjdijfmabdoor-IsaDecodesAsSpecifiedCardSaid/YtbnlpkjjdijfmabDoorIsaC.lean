/-
  THE WALKS OF isa.Right, Encode.
-/
import Derived.Test.YtbnlpkjjdijfmabDoorIsaB
import Derived.Laws.StructEq
import Derived.Lib.QuietBelow
import Derived.BigQuiet
import Derived.Deep.QuietTactic
namespace Go.Proofs.YtbnlpkjjdijfmabDoor
open Go.RowKit Go.ChangeShapes Go.WideShapes Go.ChangeAt

set_option maxRecDepth 100000 in
/-- Two instructions compared. -/
theorem ins_eq (i j : Im.I) (w : World) : (Op.equalIn 10000 23 (.agg i.cells.toArray) (.agg j.cells.toArray)).run Tryd.prog w = .ok (decide (i = j)) w := by
  obtain ⟨fs, hfs, hu⟩ : ∃ fs, Tryd.prog.fieldsOf 23 = fs ∧ Tryd.prog.underlying 23 = some (.struct fs) := ⟨_, by kernel_rfl, Tryd.underlying23⟩
  rw [run_equalIn_struct w 9999 _ _ _ (by rw [hfs]; exact hu) (by kernel_rfl), hfs]
  have hfs2 := hu.symm.trans Tryd.underlying23
  injection hfs2 with h1
  injection h1 with h2
  subst h2
  have hag : (isAgg 3).run Tryd.prog w = .ok false w := by kernel_rfl
  obtain ⟨i0, i1, i2, i3, i4⟩ := i
  obtain ⟨j0, j1, j2, j3, j4⟩ := j
  have he := fun a b => run_equalIn_int (P := Tryd.prog) w 9998 3 .i64 .i64 a b Tryd.underlying3
  by_cases e0 : i0 = j0
  · by_cases e1 : i1 = j1
    · by_cases e2 : i2 = j2
      · by_cases e3 : i3 = j3
        · by_cases e4 : i4 = j4
          · simp [Op.eqFields, part, hag, he, Im.I.cells, e0, e1, e2, e3, e4, Result.andThen]
          · simp [Op.eqFields, part, hag, he, Im.I.cells, e0, e1, e2, e3, e4, Result.andThen]
        · simp [Op.eqFields, part, hag, he, Im.I.cells, e0, e1, e2, e3, Result.andThen]
      · simp [Op.eqFields, part, hag, he, Im.I.cells, e0, e1, e2, Result.andThen]
    · simp [Op.eqFields, part, hag, he, Im.I.cells, e0, e1, Result.andThen]
  · simp [Op.eqFields, part, hag, he, Im.I.cells, e0, Result.andThen]

/-- What the box of an instruction holds. -/
def Box (w : World) (B : Nat) (i : Im.I) : Prop :=
  w.cell? ⟨B, 0, none⟩ = some (.int .i64 i.op) ∧ w.cell? ⟨B, 1, none⟩ = some (.int .i64 i.a) ∧ w.cell? ⟨B, 2, none⟩ = some (.int .i64 i.b) ∧ w.cell? ⟨B, 3, none⟩ = some (.int .i64 i.c) ∧ w.cell? ⟨B, 4, none⟩ = some (.int .i64 i.imm)
theorem Blk.box {w : World} {B : Nat} {t : TypeId} {i : Im.I} (h : Blk w B t i.cells) : Box w B i := ⟨h.cell rfl, h.cell rfl, h.cell rfl, h.cell rfl, h.cell rfl⟩
/-- A contract that ends in 'Later', met in a world of the class. -/
theorem re {f : FuncId} {args : Array Value} {w : World} {v : Value} (h : ∀ w', Later w w' → Calls Tryd.prog f args w' fun e w'' => e = .returned v ∧ Later w' w'') (d : Nat) (os : Array Obj) :
    Calls Tryd.prog f args (Sort.grow (redrawn w d) os) fun e w'' => e = .returned v ∧ ∃ p : Regrown, w'' = Sort.grow (redrawn w p.d) p.os := Calls.regrown_of (h _ (below_regrown w d os))
set_option maxRecDepth 100000 in
set_option maxHeartbeats 4000000 in
theorem right_any (i : Im.I) (w : World) (tab : Tab w) :
    Calls Tryd.prog 11 #[.agg #[.int .i64 i.op, .int .i64 i.a, .int .i64 i.b, .int .i64 i.c, .int .i64 i.imm]] w fun e w' => e = .returned (.bool (decide (Im.Right i))) ∧ Later w w' := by
  obtain ⟨w0, hw0⟩ : ∃ w0, w0 = w.alloc (.cells #[.int .i64 i.op, .int .i64 i.a, .int .i64 i.b, .int .i64 i.c, .int .i64 i.imm] 23) := ⟨_, rfl⟩
  have hl : Later w w0 := by rw [hw0]; exact later1 _ _
  have hb : Blk w0 w.heap.size 23 i.cells := by rw [hw0]; exact Blk.new _ _ _ _ rfl
  have t0 := tab.keep hl
  have HF := re (w := w0) (fun w' h => form_any i.op w' (t0.keep h))
  have HG0 := re (w := w0) (fun w' h => formed_any i.op i.a i.b i.c i.imm w' (t0.keep h))
  have HR := fun r => re (w := w0) (fun w' _ => (isReg_any r w').mono fun e w'' ⟨h1, h2⟩ => ⟨h1, h2 ▸ Below.refl _ _⟩)
  clear tab t0
  obtain ⟨c0, c1, c2, c3, c4⟩ := hb.box
  have k0 := cell_regrown c0; have k1 := cell_regrown c1; have k2 := cell_regrown c2; have k3 := cell_regrown c3; have k4 := cell_regrown c4
  clear hb c0 c1 c2 c3 c4
  obtain ⟨F, hF⟩ : ∃ F, F = Im.formed i := ⟨_, rfl⟩
  have HE : ∀ w, (Op.equalIn 10000 23 (.agg #[.int .i64 i.op, .int .i64 i.a, .int .i64 i.b, .int .i64 i.c, .int .i64 i.imm]) (.agg F.cells.toArray)).run Tryd.prog w = .ok (decide (i = F)) w := ins_eq i F
  have HG : ∀ d os, Calls Tryd.prog 34 #[.agg #[.int .i64 i.op, .int .i64 i.a, .int .i64 i.b, .int .i64 i.c, .int .i64 i.imm]] (Sort.grow (redrawn w0 d) os) fun e w'' => e = .returned (.agg F.cells.toArray) ∧ ∃ p : Regrown, w'' = Sort.grow (redrawn w0 p.d) p.os := by rw [hF]; exact HG0
  clear HG0
  have hgd : Tryd.prog.eqGuardType Tryd.prog.depth 23 = false := by kernel_rfl
  have hFh := Lib.hid hF; clear hF
  have hw1 := Lib.hid hw0; have HL := Lib.hid hl
  clear hw0 hl
  have Ra := HR i.a; have Rb := HR i.b; have Rc := HR i.c
  clear HR
  by_cases z1 : Im.form i.op ≠ 0
  rotate_left
  · rw [decide_eq_false (fun h : Im.Right i => z1 (h.1))]
    have z1' : Im.form i.op = 0 := Classical.not_not.1 z1
    rw [z1'] at HF
    clear z1
    go_enter Tryd.func11, Tryd.ntmps11
    go_wp2
    rw [← hw1.out]
    refine wp_region_quiet_below (by kernel_rfl) (by kernel_rfl) ?_
    repeat (go_big_quiet_step (first | with_reducible exact HF _ _ | with_reducible exact HG _ _ | with_reducible exact Ra _ _ | with_reducible exact Rb _ _ | with_reducible exact Rc _ _))
    refine wpQuiet_nil ?_
    rintro _ ⟨⟨dq, osq⟩, rfl⟩
    go_wp2
    go_ret
    exact ⟨rfl, Later.trans_ HL.out (below_regrown w0 dq osq)⟩
  have z1b : (Im.form i.op != 0) = true := by simpa using z1
  by_cases z2 : i = F
  rotate_left
  · rw [decide_eq_false (fun h : Im.Right i => z2 (h.2.1.trans hFh.out.symm))]
    rw [decide_eq_false z2] at HE
    go_enter Tryd.func11, Tryd.ntmps11
    go_wp2
    rw [← hw1.out]
    refine wp_region_quiet_below (by kernel_rfl) (by kernel_rfl) ?_
    repeat (go_big_quiet_step (first | with_reducible exact HF _ _ | with_reducible exact HG _ _ | with_reducible exact Ra _ _ | with_reducible exact Rb _ _ | with_reducible exact Rc _ _))
    refine wpQuiet_nil ?_
    rintro _ ⟨⟨dq, osq⟩, rfl⟩
    go_wp2
    go_ret
    exact ⟨rfl, Later.trans_ HL.out (below_regrown w0 dq osq)⟩
  rw [decide_eq_true z2] at HE
  have z2h := Lib.hid z2; clear z2
  by_cases z3 : Im.reg i.a
  rotate_left
  · rw [decide_eq_false (fun h : Im.Right i => z3 (h.2.2.1))]
    rw [decide_eq_false z3] at Ra
    go_enter Tryd.func11, Tryd.ntmps11
    go_wp2
    rw [← hw1.out]
    refine wp_region_quiet_below (by kernel_rfl) (by kernel_rfl) ?_
    repeat (go_big_quiet_step (first | with_reducible exact HF _ _ | with_reducible exact HG _ _ | with_reducible exact Ra _ _ | with_reducible exact Rb _ _ | with_reducible exact Rc _ _))
    refine wpQuiet_nil ?_
    rintro _ ⟨⟨dq, osq⟩, rfl⟩
    go_wp2
    go_ret
    exact ⟨rfl, Later.trans_ HL.out (below_regrown w0 dq osq)⟩
  rw [decide_eq_true z3] at Ra
  by_cases z4 : Im.reg i.b
  rotate_left
  · rw [decide_eq_false (fun h : Im.Right i => z4 (h.2.2.2.1))]
    rw [decide_eq_false z4] at Rb
    go_enter Tryd.func11, Tryd.ntmps11
    go_wp2
    rw [← hw1.out]
    refine wp_region_quiet_below (by kernel_rfl) (by kernel_rfl) ?_
    repeat (go_big_quiet_step (first | with_reducible exact HF _ _ | with_reducible exact HG _ _ | with_reducible exact Ra _ _ | with_reducible exact Rb _ _ | with_reducible exact Rc _ _))
    refine wpQuiet_nil ?_
    rintro _ ⟨⟨dq, osq⟩, rfl⟩
    go_wp2
    go_ret
    exact ⟨rfl, Later.trans_ HL.out (below_regrown w0 dq osq)⟩
  rw [decide_eq_true z4] at Rb
  by_cases z5 : Im.reg i.c
  rotate_left
  · rw [decide_eq_false (fun h : Im.Right i => z5 (h.2.2.2.2.1))]
    rw [decide_eq_false z5] at Rc
    go_enter Tryd.func11, Tryd.ntmps11
    go_wp2
    rw [← hw1.out]
    refine wp_region_quiet_below (by kernel_rfl) (by kernel_rfl) ?_
    repeat (go_big_quiet_step (first | with_reducible exact HF _ _ | with_reducible exact HG _ _ | with_reducible exact Ra _ _ | with_reducible exact Rb _ _ | with_reducible exact Rc _ _))
    refine wpQuiet_nil ?_
    rintro _ ⟨⟨dq, osq⟩, rfl⟩
    go_wp2
    go_ret
    exact ⟨rfl, Later.trans_ HL.out (below_regrown w0 dq osq)⟩
  rw [decide_eq_true z5] at Rc
  by_cases z6 : -131072 ≤ i.imm
  rotate_left
  · rw [decide_eq_false (fun h : Im.Right i => z6 (h.2.2.2.2.2.1))]
    have z6' : decide (-131072 ≤ i.imm) = false := decide_eq_false z6
    go_enter Tryd.func11, Tryd.ntmps11
    go_wp2
    rw [← hw1.out]
    refine wp_region_quiet_below (by kernel_rfl) (by kernel_rfl) ?_
    repeat (go_big_quiet_step (first | with_reducible exact HF _ _ | with_reducible exact HG _ _ | with_reducible exact Ra _ _ | with_reducible exact Rb _ _ | with_reducible exact Rc _ _))
    refine wpQuiet_nil ?_
    rintro _ ⟨⟨dq, osq⟩, rfl⟩
    go_wp2
    go_ret
    exact ⟨rfl, Later.trans_ HL.out (below_regrown w0 dq osq)⟩
  by_cases z7 : i.imm ≤ 131071
  rotate_left
  · rw [decide_eq_false (fun h : Im.Right i => z7 (h.2.2.2.2.2.2))]
    have z7' : decide (i.imm ≤ 131071) = false := decide_eq_false z7
    go_enter Tryd.func11, Tryd.ntmps11
    go_wp2
    rw [← hw1.out]
    refine wp_region_quiet_below (by kernel_rfl) (by kernel_rfl) ?_
    repeat (go_big_quiet_step (first | with_reducible exact HF _ _ | with_reducible exact HG _ _ | with_reducible exact Ra _ _ | with_reducible exact Rb _ _ | with_reducible exact Rc _ _))
    refine wpQuiet_nil ?_
    rintro _ ⟨⟨dq, osq⟩, rfl⟩
    go_wp2
    go_ret
    exact ⟨rfl, Later.trans_ HL.out (below_regrown w0 dq osq)⟩
  rw [decide_eq_true (show Im.Right i from ⟨z1, z2h.out.trans hFh.out, z3, z4, z5, z6, z7⟩)]
  go_enter Tryd.func11, Tryd.ntmps11
  go_wp2
  rw [← hw1.out]
  refine wp_region_quiet_below (by kernel_rfl) (by kernel_rfl) ?_
  repeat (go_big_quiet_step (first | with_reducible exact HF _ _ | with_reducible exact HG _ _ | with_reducible exact Ra _ _ | with_reducible exact Rb _ _ | with_reducible exact Rc _ _))
  refine wpQuiet_nil ?_
  rintro _ ⟨⟨dq, osq⟩, rfl⟩
  go_wp2
  go_ret
  exact ⟨rfl, Later.trans_ HL.out (below_regrown w0 dq osq)⟩
end Go.Proofs.YtbnlpkjjdijfmabDoor
