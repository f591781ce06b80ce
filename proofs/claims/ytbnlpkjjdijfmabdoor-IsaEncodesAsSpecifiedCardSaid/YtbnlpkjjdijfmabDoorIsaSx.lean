/-
  the reference's Reads, Writes, Target OF RIGHT INSTRUCTIONS, put together.
-/
import Derived.Test.YtbnlpkjjdijfmabDoorIsaS
import Derived.Test.YtbnlpkjjdijfmabDoorIsaSw
namespace Go.Proofs.YtbnlpkjjdijfmabDoor
open Go.RowKit Go.ChangeShapes Go.WideShapes Go.ChangeAt

theorem G_ab : ∀ x y : Fin 16, regs2 (x.1 : Int) (y.1 : Int) = regsG true true (x.1 : Int) (y.1 : Int) 0 15 := by decide +kernel
theorem G_a : ∀ x : Fin 16, regs1 (x.1 : Int) = regsG true false (x.1 : Int) 0 0 15 := by decide +kernel
theorem G_bc : ∀ x y : Fin 16, regs2 (x.1 : Int) (y.1 : Int) = regsG false true 0 (x.1 : Int) (y.1 : Int) 15 := by decide +kernel
theorem G_b : ∀ x : Fin 16, regs1 (x.1 : Int) = regsG false true 0 (x.1 : Int) 0 15 := by decide +kernel
theorem G_0 : ([] : List Int) = regsG false false 0 0 0 15 := by decide +kernel
theorem fin16 {a : Int} (h : 0 ≤ a ∧ a ≤ 15) : ∃ x : Fin 16, a = (x.1 : Int) := ⟨⟨a.toNat, by omega⟩, by show a = (a.toNat : Int); omega⟩
theorem g_ab {a b : Int} (h : 0 ≤ a ∧ a ≤ 15) (h' : 0 ≤ b ∧ b ≤ 15) : regsG true true a b 0 15 = regsI [a, b] := by
  obtain ⟨x, rfl⟩ := fin16 h
  obtain ⟨y, rfl⟩ := fin16 h'
  rw [regsI_two, G_ab]
theorem g_a {a b : Int} (h : 0 ≤ a ∧ a ≤ 15) : regsG true false a b 0 15 = regsI [a] := by
  obtain ⟨x, rfl⟩ := fin16 h
  rw [regsI_one, G_a]; rfl
theorem g_bc {a b c : Int} (h : 0 ≤ b ∧ b ≤ 15) (h' : 0 ≤ c ∧ c ≤ 15) : regsG false true a b c 15 = regsI [b, c] := by
  obtain ⟨x, rfl⟩ := fin16 h
  obtain ⟨y, rfl⟩ := fin16 h'
  rw [regsI_two, G_bc]; rfl
theorem g_b {a b : Int} (h : 0 ≤ b ∧ b ≤ 15) : regsG false true a b 0 15 = regsI [b] := by
  obtain ⟨x, rfl⟩ := fin16 h
  rw [regsI_one, G_b]; rfl
theorem g_0 {a b : Int} : regsG false false a b 0 15 = [] := by rw [G_0]; rfl
theorem qForm (op : Int) : Q 26 #[.int .i64 op] (.int .i64 (Im.form op)) := fun w => refForm_any op w
theorem qBr (op : Int) (b : Bool) (h : decide (28 ≤ op ∧ op ≤ 31) = b) : Q 38 #[.int .i64 op] (.bool b) := fun w => by rw [← h]; exact refBranch_any op w
theorem form_two : ∀ k : Fin 49, (Im.formN k.1 == 2) = ([16, 20, 21, 22, 23, 24, 28, 29, 30, 31, 33].contains k.1) := by decide +kernel
theorem form_four : ∀ k : Fin 49, (Im.formN k.1 == 4) = (k.1 == 44) := by decide +kernel
theorem form_3s : ∀ k : Fin 49, (Im.formN k.1 == 3) = ([17, 32, 42, 43, 46, 47].contains k.1) := by decide +kernel
theorem form_2_ops {op : Int} (h : Im.form op = 2) (h21 : op ≠ 21) (h23 : op ≠ 23) (h24 : op ≠ 24) (hb : ¬ (28 ≤ op ∧ op ≤ 31)) : op = 16 ∨ op = 20 ∨ op = 22 ∨ op = 33 := by
  have hr := Im.form_range (op := op) (by omega)
  obtain ⟨k, rfl⟩ := Int.eq_ofNat_of_zero_le (show 0 ≤ op by omega)
  have h1 := form_two ⟨k, by omega⟩
  dsimp only at h1
  have h2 : Im.formN k = 2 := by rw [Im.form_nat] at h; omega
  rw [h2] at h1
  have h3 : k ∈ [16, 20, 21, 22, 23, 24, 28, 29, 30, 31, 33] := by
    have : [16, 20, 21, 22, 23, 24, 28, 29, 30, 31, 33].contains k = true := by rw [← h1]; rfl
    simpa using this
  simp only [List.mem_cons, List.not_mem_nil, or_false] at h3
  omega
theorem form_4_op {op : Int} (h : Im.form op = 4) : op = 44 := by
  have hr := Im.form_range (op := op) (by omega)
  obtain ⟨k, rfl⟩ := Int.eq_ofNat_of_zero_le (show 0 ≤ op by omega)
  have h1 := form_four ⟨k, by omega⟩
  dsimp only at h1
  have h2 : Im.formN k = 4 := by rw [Im.form_nat] at h; omega
  rw [h2] at h1
  have h3 : (k == 44) = true := by rw [← h1]; rfl
  simp at h3
  omega
theorem refReads_any (i : Im.I) (hr : Im.Right i) (w : World) :
    Calls Tryd.prog 18 #[.agg #[.int .i64 i.op, .int .i64 i.a, .int .i64 i.b, .int .i64 i.c, .int .i64 i.imm]] w (MadeI (readL i) w) := by
  obtain ⟨h1, h2, h3, h4, h5, h6⟩ := Im.right_cases hr
  have hf := hr.1
  obtain ⟨op, a, b, c, imm⟩ := i
  dsimp only at *
  have HF := qForm op
  by_cases h21 : op = 21
  · subst h21
    have e : Im.form 21 = 2 := by decide +kernel
    obtain rfl : c = 0 := by rcases h6 with h6 | h6 | h6 | h6 | h6 <;> omega
    rw [e] at HF
    have h := rreads_21 a b 0 imm w HF
    rw [g_ab h2 h3] at h
    exact h
  by_cases h23 : op = 23
  · subst h23
    have e : Im.form 23 = 2 := by decide +kernel
    obtain rfl : c = 0 := by rcases h6 with h6 | h6 | h6 | h6 | h6 <;> omega
    rw [e] at HF
    have h := rreads_23 a b 0 imm w HF
    rw [g_ab h2 h3] at h
    exact h
  by_cases h24 : op = 24
  · subst h24
    have e : Im.form 24 = 2 := by decide +kernel
    obtain rfl : c = 0 := by rcases h6 with h6 | h6 | h6 | h6 | h6 <;> omega
    rw [e] at HF
    have h := rreads_24 a b 0 imm w HF
    rw [g_ab h2 h3] at h
    exact h
  by_cases h28 : op = 28
  · subst h28
    have e : Im.form 28 = 2 := by decide +kernel
    obtain rfl : c = 0 := by rcases h6 with h6 | h6 | h6 | h6 | h6 <;> omega
    rw [e] at HF
    have h := rreads_28 a b 0 imm w HF (qBr 28 true (by decide))
    rw [g_ab h2 h3] at h
    exact h
  by_cases h29 : op = 29
  · subst h29
    have e : Im.form 29 = 2 := by decide +kernel
    obtain rfl : c = 0 := by rcases h6 with h6 | h6 | h6 | h6 | h6 <;> omega
    rw [e] at HF
    have h := rreads_29 a b 0 imm w HF (qBr 29 true (by decide))
    rw [g_ab h2 h3] at h
    exact h
  by_cases h30 : op = 30
  · subst h30
    have e : Im.form 30 = 2 := by decide +kernel
    obtain rfl : c = 0 := by rcases h6 with h6 | h6 | h6 | h6 | h6 <;> omega
    rw [e] at HF
    have h := rreads_30 a b 0 imm w HF (qBr 30 true (by decide))
    rw [g_ab h2 h3] at h
    exact h
  by_cases h31 : op = 31
  · subst h31
    have e : Im.form 31 = 2 := by decide +kernel
    obtain rfl : c = 0 := by rcases h6 with h6 | h6 | h6 | h6 | h6 <;> omega
    rw [e] at HF
    have h := rreads_31 a b 0 imm w HF (qBr 31 true (by decide))
    rw [g_ab h2 h3] at h
    exact h
  by_cases h43 : op = 43
  · subst h43
    have e : Im.form 43 = 3 := by decide +kernel
    obtain rfl : c = 0 := by rcases h6 with h6 | h6 | h6 | h6 | h6 <;> omega
    rw [e] at HF
    have h := rreads_43 a b 0 imm w HF (qBr 43 false (by decide))
    rw [g_a h2] at h
    exact h
  by_cases h47 : op = 47
  · subst h47
    have e : Im.form 47 = 3 := by decide +kernel
    obtain rfl : c = 0 := by rcases h6 with h6 | h6 | h6 | h6 | h6 <;> omega
    rw [e] at HF
    have h := rreads_47 a b 0 imm w HF (qBr 47 false (by decide))
    rw [g_a h2] at h
    exact h
  have hb : ¬ (28 ≤ op ∧ op ≤ 31) := by omega
  have HB := qBr op false (decide_eq_false hb)
  have e2 : isAB op = false := by simp [isAB, h21, h23, h24, h28, h29, h30, h31]
  have e3 : isA op = false := by simp [isA, h43, h47]
  by_cases f1 : Im.form op = 1
  · rw [f1] at HF
    have h := rreads_three a b c imm op w HF HB h21 h23 h24 h43 h47
    rw [g_bc h3 h4] at h
    have ho := (form_three hf).1 f1
    have e1 : isB op = false := by
      simp only [isB, Bool.or_eq_false_iff, beq_eq_false_iff_ne]
      omega
    have e : readL ⟨op, a, b, c, imm⟩ = regsI [b, c] := by unfold readL; dsimp only; rw [e1, e2, e3, f1]; rfl
    rw [e]
    exact h
  · by_cases f2 : Im.form op = 2
    · obtain rfl : c = 0 := by rcases h6 with h6 | h6 | h6 | h6 | h6 <;> omega
      rw [f2] at HF
      have h := rreads_two a b 0 imm op w HF HB h21 h23 h24 h43 h47
      rw [g_b h3] at h
      rcases form_2_ops f2 h21 h23 h24 hb with rfl | rfl | rfl | rfl <;> exact h
    · obtain rfl : c = 0 := by rcases h6 with h6 | h6 | h6 | h6 | h6 <;> omega
      by_cases h44 : op = 44
      · subst h44
        have e : Im.form 44 = 4 := by decide +kernel
        rw [e] at HF
        have h := rreads_44 a b 0 imm w HF HB
        rw [g_b h3] at h
        exact h
      · have h := rreads_none a b 0 imm op (Im.form op) w HF (beq_eq_false_iff_ne.2 f1) (beq_eq_false_iff_ne.2 f2) HB h21 h23 h24 h43 h47 h44
        rw [g_0] at h
        have e1 : isB op = false := by
          cases hh : isB op with
          | false => rfl
          | true =>
            exfalso
            simp only [isB, Bool.or_eq_true, beq_iff_eq] at hh
            rcases hh with (((rfl | rfl) | rfl) | rfl) | rfl
            · exact f2 (by decide +kernel)
            · exact f2 (by decide +kernel)
            · exact f2 (by decide +kernel)
            · exact f2 (by decide +kernel)
            · exact h44 rfl
        have e : readL ⟨op, a, b, 0, imm⟩ = [] := by unfold readL; dsimp only; rw [e1, e2, e3, if_neg f1]; rfl
        rw [e]
        exact h
theorem refWrites_any (i : Im.I) (hr : Im.Right i) (w : World) :
    Calls Tryd.prog 20 #[.agg #[.int .i64 i.op, .int .i64 i.a, .int .i64 i.b, .int .i64 i.c, .int .i64 i.imm]] w fun e w' => e = .returned (.int .i64 (writeI i)) ∧ Later w w' := by
  obtain ⟨h1, h2, h3, h4, h5, h6⟩ := Im.right_cases hr
  have hf := hr.1
  obtain ⟨op, a, b, c, imm⟩ := i
  dsimp only at *
  by_cases h21 : op = 21
  · subst h21
    have e : writeI ⟨21, a, b, c, imm⟩ = 0 := by
      unfold writeI; dsimp only; rw [if_neg (by decide), if_neg (by decide +kernel)]
    rw [e]
    exact rwrites_21 a b c imm w
  by_cases h23 : op = 23
  · subst h23
    have e : writeI ⟨23, a, b, c, imm⟩ = 0 := by
      unfold writeI; dsimp only; rw [if_neg (by decide), if_neg (by decide +kernel)]
    rw [e]
    exact rwrites_23 a b c imm w
  by_cases h28 : op = 28
  · subst h28
    have e : writeI ⟨28, a, b, c, imm⟩ = 0 := by
      unfold writeI; dsimp only; rw [if_neg (by decide), if_neg (by decide +kernel)]
    rw [e]
    exact rwrites_28 a b c imm w (qBr 28 true (by decide))
  by_cases h29 : op = 29
  · subst h29
    have e : writeI ⟨29, a, b, c, imm⟩ = 0 := by
      unfold writeI; dsimp only; rw [if_neg (by decide), if_neg (by decide +kernel)]
    rw [e]
    exact rwrites_29 a b c imm w (qBr 29 true (by decide))
  by_cases h30 : op = 30
  · subst h30
    have e : writeI ⟨30, a, b, c, imm⟩ = 0 := by
      unfold writeI; dsimp only; rw [if_neg (by decide), if_neg (by decide +kernel)]
    rw [e]
    exact rwrites_30 a b c imm w (qBr 30 true (by decide))
  by_cases h31 : op = 31
  · subst h31
    have e : writeI ⟨31, a, b, c, imm⟩ = 0 := by
      unfold writeI; dsimp only; rw [if_neg (by decide), if_neg (by decide +kernel)]
    rw [e]
    exact rwrites_31 a b c imm w (qBr 31 true (by decide))
  by_cases h43 : op = 43
  · subst h43
    have e : writeI ⟨43, a, b, c, imm⟩ = 0 := by
      unfold writeI; dsimp only; rw [if_neg (by decide), if_neg (by decide +kernel)]
    rw [e]
    exact rwrites_43 a b c imm w (qBr 43 false (by decide))
  by_cases h47 : op = 47
  · subst h47
    have e : writeI ⟨47, a, b, c, imm⟩ = 0 := by
      unfold writeI; dsimp only; rw [if_neg (by decide), if_neg (by decide +kernel)]
    rw [e]
    exact rwrites_47 a b c imm w (qBr 47 false (by decide))
  by_cases h44 : op = 44
  · subst h44
    have e : writeI ⟨44, a, b, c, imm⟩ = 0 := by
      unfold writeI; dsimp only; rw [if_neg (by decide), if_neg (by decide +kernel)]
    rw [e]
    exact rwrites_44 a b c imm w (qBr 44 false (by decide))
  have hb : ¬ (28 ≤ op ∧ op ≤ 31) := by omega
  have h := rwrites_a a b c imm op w (qBr op false (decide_eq_false hb)) h21 h23 h43 h47 h44
  have e : writeI ⟨op, a, b, c, imm⟩ = a := by
    unfold writeI
    dsimp only
    split
    · rfl
    · rename_i hw
      split
      · rfl
      · rename_i f1
        have hw' : wrA op = false := by simpa using hw
        simp only [wrA, Bool.or_eq_false_iff, beq_eq_false_iff_ne] at hw'
        rcases h6 with h6 | h6 | h6 | h6 | h6
        · exact absurd h6.1 f1
        · rcases form_2_ops h6.1 h21 h23 (by omega) hb with e | e | e | e <;> omega
        · have h7 : op = 17 ∨ op = 32 ∨ op = 42 ∨ op = 46 := by
            have hr := Im.form_range (op := op) (by omega)
            obtain ⟨k, rfl⟩ := Int.eq_ofNat_of_zero_le (show 0 ≤ op by omega)
            have h8 := form_3s ⟨k, by omega⟩
            dsimp only at h8
            have h9 : Im.formN k = 3 := by have := h6.1; rw [Im.form_nat] at this; omega
            rw [h9] at h8
            have h10 : [17, 32, 42, 43, 46, 47].contains k = true := by rw [← h8]; rfl
            have h11 : k ∈ [17, 32, 42, 43, 46, 47] := by simpa using h10
            simp only [List.mem_cons, List.not_mem_nil, or_false] at h11
            omega
          omega
        · exact absurd (form_4_op h6.1) h44
        · exact h6.2.1.symm
  rw [e]
  exact h
theorem refTarget_any (pc : Int) (i : Im.I) (hr : Im.Right i) (w : World) :
    Calls Tryd.prog 15 #[.int .u32 pc, .agg #[.int .i64 i.op, .int .i64 i.a, .int .i64 i.b, .int .i64 i.c, .int .i64 i.imm]] w fun e w' => e = .returned (.agg #[.int .u32 (targI pc i), .bool (isT i.op)]) ∧ Later w w' := by
  have hi := hr.2.2.2.2.2
  obtain ⟨op, a, b, c, imm⟩ := i
  dsimp only at *
  by_cases h28 : op = 28
  · subst h28
    exact rtarget_28 pc a b c imm w (qBr 28 true (by decide)) hi
  by_cases h29 : op = 29
  · subst h29
    exact rtarget_29 pc a b c imm w (qBr 29 true (by decide)) hi
  by_cases h30 : op = 30
  · subst h30
    exact rtarget_30 pc a b c imm w (qBr 30 true (by decide)) hi
  by_cases h31 : op = 31
  · subst h31
    exact rtarget_31 pc a b c imm w (qBr 31 true (by decide)) hi
  by_cases h32 : op = 32
  · subst h32
    exact rtarget_32 pc a b c imm w (qBr 32 false (by decide)) hi
  have e1 : isT op = false := by simp [isT, h28, h29, h30, h31, h32]
  have e4 : targI pc ⟨op, a, b, c, imm⟩ = 0 := by unfold targI; dsimp only; rw [e1]; rfl
  rw [e4, e1]
  exact rtarget_none pc a b c imm op w (qBr op false (decide_eq_false (by omega))) h32
end Go.Proofs.YtbnlpkjjdijfmabDoor
