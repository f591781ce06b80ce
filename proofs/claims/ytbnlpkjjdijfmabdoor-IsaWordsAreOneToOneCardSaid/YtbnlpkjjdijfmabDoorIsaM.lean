/-
  THE STATEMENT IsaTargetsTurnBack, walked; IsaWordsAreOneToOne, put together.
-/
import Derived.Test.YtbnlpkjjdijfmabDoorIsaL
namespace Go.Proofs.YtbnlpkjjdijfmabDoor
open Go.RowKit Go.ChangeShapes Go.WideShapes Go.ChangeAt

set_option maxRecDepth 100000 in
theorem lawWords_any (W : Int) (h : 0 ≤ W ∧ W < 4294967296) (i j : Im.I) (w : World) (tab : Tab w) :
    Calls Tryd.prog 6 #[.int .u32 W, .agg #[.int .i64 i.op, .int .i64 i.a, .int .i64 i.b, .int .i64 i.c, .int .i64 i.imm], .agg #[.int .i64 j.op, .int .i64 j.a, .int .i64 j.b, .int .i64 j.c, .int .i64 j.imm]] w fun e w' => e = .returned (.bool true) ∧ Later w w' := by
  have SA := fun w' (hl : Later w w') => sanity_any w' (tab.keep hl)
  have D1 := fun w' (hl : Later w w') => decode_any W h w' (tab.keep hl)
  have EI := fun w' (hl : Later w w') => encode_any i w' (tab.keep hl)
  have RI := fun w' (hl : Later w w') => right_any i w' (tab.keep hl)
  have EJ := fun w' (hl : Later w w') => encode_any j w' (tab.keep hl)
  have RJ := fun w' (hl : Later w w') => right_any j w' (tab.keep hl)
  have DA : Im.Right i → ∀ w', Later w w' → Calls Tryd.prog 21 #[.int .u32 (Im.word i)] w' fun e w'' => e = .returned (.tuple #[.agg i.cells.toArray, .bool true]) ∧ Later w' w'' := fun hi w' hl => by
    have h1 := decode_any (Im.word i) (Im.word_bd hi) w' (tab.keep hl)
    unfold decI at h1
    rw [if_pos (Im.legal_word hi), Im.cut_word hi, decide_eq_true (Im.legal_word hi)] at h1
    exact h1
  have hii : ∀ w, (Op.equalIn 10000 23 (.agg #[.int .i64 i.op, .int .i64 i.a, .int .i64 i.b, .int .i64 i.c, .int .i64 i.imm]) (.agg #[.int .i64 i.op, .int .i64 i.a, .int .i64 i.b, .int .i64 i.c, .int .i64 i.imm])).run Tryd.prog w = .ok true w := fun w => by
    have h1 := ins_eq i i w
    rw [decide_eq_true rfl] at h1
    exact h1
  have hij : i ≠ j → ∀ w, (Op.equalIn 10000 23 (.agg #[.int .i64 i.op, .int .i64 i.a, .int .i64 i.b, .int .i64 i.c, .int .i64 i.imm]) (.agg #[.int .i64 j.op, .int .i64 j.a, .int .i64 j.b, .int .i64 j.c, .int .i64 j.imm])).run Tryd.prog w = .ok false w := fun hne w => by
    have h1 := ins_eq i j w
    rw [decide_eq_false hne] at h1
    exact h1
  have hab : Im.Right i → Im.Right j → i ≠ j → (Im.word i == Im.word j) = false := fun hi hj hne => beq_eq_false_iff_ne.2 fun e => hne (Im.word_inj hi hj e)
  unfold encW encE at EI EJ
  by_cases hL : Im.Legal W
  · have hX := Im.right_cut hL
    have EX := fun w' (hl : Later w w') => encode_any (Im.cut W) w' (tab.keep hl)
    have RX := fun w' (hl : Later w w') => right_any (Im.cut W) w' (tab.keep hl)
    unfold encW encE at EX
    unfold decI at D1
    simp only [if_pos hX, hL.2] at EX
    simp only [decide_eq_true hX] at RX
    simp only [if_pos hL, decide_eq_true hL] at D1
    by_cases hi : Im.Right i
    · simp only [if_pos hi] at EI
      simp only [decide_eq_true hi] at RI
      by_cases hj : Im.Right j
      · simp only [if_pos hj] at EJ
        simp only [decide_eq_true hj] at RJ
        by_cases hne : i = j
        · subst hne
          exact words_Lrre W (Im.word i) (Im.cut W) i w D1 EX RX EI RI SA (DA hi) hii
        · exact words_Lrr W (Im.word i) (Im.word j) (Im.cut W) i j w D1 EX RX EI RI EJ RJ SA (DA hi) hii (hij hne) (hab hi hj hne)
      · simp only [if_neg hj] at EJ
        simp only [decide_eq_false hj] at RJ
        exact words_Lrn W (Im.word i) (Im.cut W) i j w D1 EX RX EI RI EJ RJ SA (DA hi) hii
    · simp only [if_neg hi] at EI
      simp only [decide_eq_false hi] at RI
      by_cases hj : Im.Right j
      · simp only [if_pos hj] at EJ
        simp only [decide_eq_true hj] at RJ
        exact words_Lnr W (Im.word j) (Im.cut W) i j w D1 EX RX EI RI EJ RJ SA
      · simp only [if_neg hj] at EJ
        simp only [decide_eq_false hj] at RJ
        exact words_Lnn W (Im.cut W) i j w D1 EX RX EI RI EJ RJ SA
  · unfold decI at D1
    simp only [if_neg hL, decide_eq_false hL] at D1
    by_cases hi : Im.Right i
    · simp only [if_pos hi] at EI
      simp only [decide_eq_true hi] at RI
      by_cases hj : Im.Right j
      · simp only [if_pos hj] at EJ
        simp only [decide_eq_true hj] at RJ
        by_cases hne : i = j
        · subst hne
          exact words_Nrre W (Im.word i) i w D1 EI RI SA (DA hi) hii
        · exact words_Nrr W (Im.word i) (Im.word j) i j w D1 EI RI EJ RJ SA (DA hi) hii (hij hne) (hab hi hj hne)
      · simp only [if_neg hj] at EJ
        simp only [decide_eq_false hj] at RJ
        exact words_Nrn W (Im.word i) i j w D1 EI RI EJ RJ SA (DA hi) hii
    · simp only [if_neg hi] at EI
      simp only [decide_eq_false hi] at RI
      by_cases hj : Im.Right j
      · simp only [if_pos hj] at EJ
        simp only [decide_eq_true hj] at RJ
        exact words_Nnr W (Im.word j) i j w D1 EI RI EJ RJ SA
      · simp only [if_neg hj] at EJ
        simp only [decide_eq_false hj] at RJ
        exact words_Nnn W i j w D1 EI RI EJ RJ SA
end Go.Proofs.YtbnlpkjjdijfmabDoor
