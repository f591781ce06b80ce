/-
  Reads, Writes, Target OF RIGHT INSTRUCTIONS, put together.
-/
import Derived.Test.YtbnlpkjjdijfmabDoorIsaH
namespace Go.Proofs.YtbnlpkjjdijfmabDoor
open Go.RowKit Go.ChangeShapes Go.WideShapes Go.ChangeAt

theorem form_one : ∀ k : Fin 49, (Im.formN k.1 == 1) = (decide (1 ≤ k.1) && decide (k.1 ≤ 12)) := by decide +kernel
theorem form_three {op : Int} (h : Im.form op ≠ 0) : Im.form op = 1 ↔ 1 ≤ op ∧ op ≤ 12 := by
  have hr := Im.form_range h
  obtain ⟨k, rfl⟩ := Int.eq_ofNat_of_zero_le (show 0 ≤ op by omega)
  have h1 := form_one ⟨k, by omega⟩
  have h2 : (Im.formN k == 1) = (decide (1 ≤ k) && decide (k ≤ 12)) := h1
  rw [Im.form_nat]
  constructor
  · intro e
    have e' : Im.formN k = 1 := by omega
    rw [e'] at h2
    simp at h2
    omega
  · intro e
    have : (Im.formN k == 1) = true := by rw [h2]; simp; omega
    simp at this
    omega
theorem right_ok {i : Im.I} {w : World} (tab : Tab w) (hr : Im.Right i) : RightOk i.op i.a i.b i.c i.imm w := fun w' hl => by
  have h := right_any i w' (tab.keep hl)
  rw [decide_eq_true hr] at h
  exact h
theorem reads_any (i : Im.I) (hr : Im.Right i) (w : World) (tab : Tab w) :
    Calls Tryd.prog 17 #[.agg #[.int .i64 i.op, .int .i64 i.a, .int .i64 i.b, .int .i64 i.c, .int .i64 i.imm]] w (MadeI (readL i) w) := by
  have HR := right_ok tab hr
  have HF := fun w' (hl : Later w w') => form_any i.op w' (tab.keep hl)
  have hf := hr.1
  obtain ⟨op, a, b, c, imm⟩ := i
  dsimp only at *
  by_cases h16 : op = 16
  · subst h16
    exact reads_16 a b c imm w (Lib.hid HR)
  by_cases h20 : op = 20
  · subst h20
    exact reads_20 a b c imm w (Lib.hid HR)
  by_cases h22 : op = 22
  · subst h22
    exact reads_22 a b c imm w (Lib.hid HR)
  by_cases h33 : op = 33
  · subst h33
    exact reads_33 a b c imm w (Lib.hid HR)
  by_cases h44 : op = 44
  · subst h44
    exact reads_44 a b c imm w (Lib.hid HR)
  by_cases h21 : op = 21
  · subst h21
    exact reads_21 a b c imm w (Lib.hid HR)
  by_cases h23 : op = 23
  · subst h23
    exact reads_23 a b c imm w (Lib.hid HR)
  by_cases h24 : op = 24
  · subst h24
    exact reads_24 a b c imm w (Lib.hid HR)
  by_cases h28 : op = 28
  · subst h28
    exact reads_28 a b c imm w (Lib.hid HR)
  by_cases h29 : op = 29
  · subst h29
    exact reads_29 a b c imm w (Lib.hid HR)
  by_cases h30 : op = 30
  · subst h30
    exact reads_30 a b c imm w (Lib.hid HR)
  by_cases h31 : op = 31
  · subst h31
    exact reads_31 a b c imm w (Lib.hid HR)
  by_cases h43 : op = 43
  · subst h43
    exact reads_43 a b c imm w (Lib.hid HR)
  by_cases h47 : op = 47
  · subst h47
    exact reads_47 a b c imm w (Lib.hid HR)
  have e1 : isB op = false := by simp [isB, h16, h20, h22, h33, h44]
  have e2 : isAB op = false := by simp [isAB, h21, h23, h24, h28, h29, h30, h31]
  have e3 : isA op = false := by simp [isA, h43, h47]
  by_cases ho : Im.form op = 1
  · have e4 : readL ⟨op, a, b, c, imm⟩ = regsI [b, c] := by unfold readL; dsimp only; rw [e1, e2, e3, ho]; rfl
    rw [e4]
    rw [ho] at HF
    exact reads_three op a b c imm w ((form_three hf).1 ho) (Lib.hid HR) (Lib.hid HF)
  · have e4 : readL ⟨op, a, b, c, imm⟩ = [] := by unfold readL; dsimp only; rw [e1, e2, e3, if_neg ho]; rfl
    rw [e4]
    exact reads_none op a b c imm w (Im.form op) h16 h20 h22 h33 h44 h21 h23 h24 h28 h29 h30 h31 h43 h47 (Lib.hid HR) (Lib.hid HF) (beq_eq_false_iff_ne.2 ho)
theorem writes_any (i : Im.I) (hr : Im.Right i) (w : World) (tab : Tab w) :
    Calls Tryd.prog 19 #[.agg #[.int .i64 i.op, .int .i64 i.a, .int .i64 i.b, .int .i64 i.c, .int .i64 i.imm]] w fun e w' => e = .returned (.int .i64 (writeI i)) ∧ Later w w' := by
  have HR := right_ok tab hr
  have HF := fun w' (hl : Later w w') => form_any i.op w' (tab.keep hl)
  have hf := hr.1
  obtain ⟨op, a, b, c, imm⟩ := i
  dsimp only at *
  by_cases h16 : op = 16
  · subst h16
    exact writes_16 a b c imm w (Lib.hid HR)
  by_cases h17 : op = 17
  · subst h17
    exact writes_17 a b c imm w (Lib.hid HR)
  by_cases h20 : op = 20
  · subst h20
    exact writes_20 a b c imm w (Lib.hid HR)
  by_cases h22 : op = 22
  · subst h22
    exact writes_22 a b c imm w (Lib.hid HR)
  by_cases h24 : op = 24
  · subst h24
    exact writes_24 a b c imm w (Lib.hid HR)
  by_cases h32 : op = 32
  · subst h32
    exact writes_32 a b c imm w (Lib.hid HR)
  by_cases h33 : op = 33
  · subst h33
    exact writes_33 a b c imm w (Lib.hid HR)
  by_cases h42 : op = 42
  · subst h42
    exact writes_42 a b c imm w (Lib.hid HR)
  by_cases h46 : op = 46
  · subst h46
    exact writes_46 a b c imm w (Lib.hid HR)
  have e1 : wrA op = false := by simp [wrA, h16, h17, h20, h22, h24, h32, h33, h42, h46]
  by_cases ho : Im.form op = 1
  · have e4 : writeI ⟨op, a, b, c, imm⟩ = a := by unfold writeI; dsimp only; rw [e1, ho]; rfl
    rw [e4]
    rw [ho] at HF
    exact writes_three op a b c imm w ((form_three hf).1 ho) (Lib.hid HR) (Lib.hid HF)
  · have e4 : writeI ⟨op, a, b, c, imm⟩ = 0 := by unfold writeI; dsimp only; rw [e1, if_neg ho]; rfl
    rw [e4]
    exact writes_none op a b c imm w (Im.form op) h16 h17 h20 h22 h24 h32 h33 h42 h46 (Lib.hid HR) (Lib.hid HF) (beq_eq_false_iff_ne.2 ho)
theorem target_any (pc : Int) (i : Im.I) (hr : Im.Right i) (w : World) (tab : Tab w) :
    Calls Tryd.prog 14 #[.int .u32 pc, .agg #[.int .i64 i.op, .int .i64 i.a, .int .i64 i.b, .int .i64 i.c, .int .i64 i.imm]] w fun e w' => e = .returned (.tuple #[.int .u32 (targI pc i), .bool (isT i.op)]) ∧ Later w w' := by
  have HR := right_ok tab hr
  have hi := hr.2.2.2.2.2
  obtain ⟨op, a, b, c, imm⟩ := i
  dsimp only at *
  by_cases h28 : op = 28
  · subst h28
    exact target_28 a b c imm w pc (Lib.hid HR) hi
  by_cases h29 : op = 29
  · subst h29
    exact target_29 a b c imm w pc (Lib.hid HR) hi
  by_cases h30 : op = 30
  · subst h30
    exact target_30 a b c imm w pc (Lib.hid HR) hi
  by_cases h31 : op = 31
  · subst h31
    exact target_31 a b c imm w pc (Lib.hid HR) hi
  by_cases h32 : op = 32
  · subst h32
    exact target_32 a b c imm w pc (Lib.hid HR) hi
  have e1 : isT op = false := by simp [isT, h28, h29, h30, h31, h32]
  have e4 : targI pc ⟨op, a, b, c, imm⟩ = 0 := by unfold targI; dsimp only; rw [e1]; rfl
  rw [e4, e1]
  exact target_none op a b c imm w pc h28 h29 h30 h31 h32 (Lib.hid HR)
end Go.Proofs.YtbnlpkjjdijfmabDoor
