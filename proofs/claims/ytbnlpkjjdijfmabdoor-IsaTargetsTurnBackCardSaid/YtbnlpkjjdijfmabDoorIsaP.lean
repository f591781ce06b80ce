/-
  THE STATEMENT IsaTargetsTurnBack, put together.
-/
import Derived.Test.YtbnlpkjjdijfmabDoorIsaN
namespace Go.Proofs.YtbnlpkjjdijfmabDoor
open Go.RowKit Go.ChangeShapes Go.WideShapes Go.ChangeAt

set_option maxRecDepth 100000 in
set_option maxHeartbeats 1000000 in
theorem turns_wrong (pc : Int) (i : Im.I) (w : World)
    (RI : Hid (∀ w' : World, Later w w' → Calls Tryd.prog 11 #[.agg #[.int .i64 i.op, .int .i64 i.a, .int .i64 i.b, .int .i64 i.c, .int .i64 i.imm]] w' fun e w'' => e = .returned (.bool false) ∧ Later w' w''))
    (SA : Hid (∀ w' : World, Later w w' → Calls Tryd.prog 13 #[] w' fun e w'' => e = .returned (.bool true) ∧ Later w' w'')) :
    Calls Tryd.prog 8 #[.agg #[.int .i64 i.op, .int .i64 i.a, .int .i64 i.b, .int .i64 i.c, .int .i64 i.imm], .int .u32 pc] w fun e w' => e = .returned (.bool true) ∧ Later w w' := by
  go_enter Tryd.func8, Tryd.ntmps8
  go_wp2_with (first
    | (go_at_call 11; (with_reducible refine (RI.out _ (later1 _ _)).mono ?_); rintro e w1 ⟨rfl, h1⟩; have l1 := Later.trans_ (later1 _ _) h1)
    | (go_at_call 13; (with_reducible refine (SA.out w1 l1).mono ?_); rintro e w2 ⟨rfl, h2⟩; have l2 := Later.trans_ l1 h2))
  go_ret
  exact ⟨rfl, l2⟩
theorem write_cases {i : Im.I} : writeI i = 0 ∨ (writeI i = i.a ∧ (i.a != 0) = true) := by
  by_cases h : i.a = 0
  · left; unfold writeI; split
    · exact h
    · split
      · exact h
      · rfl
  · have h' : (i.a != 0) = true := by simpa using h
    unfold writeI
    split
    · exact .inr ⟨rfl, h'⟩
    · split
      · exact .inr ⟨rfl, h'⟩
      · exact .inl rfl
theorem lawTurns_any (i : Im.I) (pc : Int) (hpc : 0 ≤ pc ∧ pc < 4294967296) (w : World) (tab : Tab w) :
    Calls Tryd.prog 8 #[.agg #[.int .i64 i.op, .int .i64 i.a, .int .i64 i.b, .int .i64 i.c, .int .i64 i.imm], .int .u32 pc] w fun e w' => e = .returned (.bool true) ∧ Later w w' := by
  have SA := fun w' (hl : Later w w') => sanity_any w' (tab.keep hl)
  have RI := fun w' (hl : Later w w') => right_any i w' (tab.keep hl)
  by_cases hr : Im.Right i
  · simp only [decide_eq_true hr] at RI
    have RD := fun w' (hl : Later w w') => reads_any i hr w' (tab.keep hl)
    have WR := fun w' (hl : Later w w') => writes_any i hr w' (tab.keep hl)
    have TG := fun w' (hl : Later w w') => target_any pc i hr w' (tab.keep hl)
    have hasc := readL_asc hr
    have hi := hr.2.2.2.2.2
    have RJ := fun w' (hl : Later w w') => right_any ⟨i.op, i.a, i.b, i.c, -i.imm⟩ w' (tab.keep hl)
    cases ht : isT i.op with
    | false =>
      have hT : targI pc i = 0 := by unfold targI; rw [ht]; rfl
      simp only [ht, hT] at TG
      rcases write_cases (i := i) with hw | ⟨hw, ha⟩
      · simp only [hw] at WR
        exact turns_nz pc i (readL i) w hasc RI RD WR TG SA
      · simp only [hw] at WR
        exact turns_na pc i (readL i) w hasc RI RD WR TG SA ha
    | true =>
      have hT : targI pc i = (pc + 4 * i.imm) % 4294967296 := by unfold targI; rw [ht]; rfl
      simp only [ht] at TG
      by_cases hm : i.imm = -131072
      · have hj : ¬ Im.Right ⟨i.op, i.a, i.b, i.c, -i.imm⟩ := fun h => (right_opp hr ht).1 h hm
        simp only [decide_eq_false hj] at RJ
        rcases write_cases (i := i) with hw | ⟨hw, ha⟩
        · simp only [hw] at WR
          exact turns_xz pc (targI pc i) i (readL i) w hasc RI RD WR TG SA RJ hm hi
        · simp only [hw] at WR
          exact turns_xa pc (targI pc i) i (readL i) w hasc RI RD WR TG SA RJ ha hm hi
      · have hj := (right_opp hr ht).2 hm
        simp only [decide_eq_true hj] at RJ
        have TJ := fun w' (hl : Later w w') => target_any (targI pc i) ⟨i.op, i.a, i.b, i.c, -i.imm⟩ hj w' (tab.keep hl)
        have hb : targI (targI pc i) ⟨i.op, i.a, i.b, i.c, -i.imm⟩ = pc := by
          rw [hT]
          unfold targI
          dsimp only
          rw [ht, if_pos rfl]
          omega
        simp only [hb, ht] at TJ
        rcases write_cases (i := i) with hw | ⟨hw, ha⟩
        · simp only [hw] at WR
          exact turns_jz pc (targI pc i) i (readL i) w hasc RI RD WR TG SA RJ TJ hi
        · simp only [hw] at WR
          exact turns_ja pc (targI pc i) i (readL i) w hasc RI RD WR TG SA RJ TJ ha hi
  · simp only [decide_eq_false hr] at RI
    exact turns_wrong pc i w RI SA
end Go.Proofs.YtbnlpkjjdijfmabDoor
