/-
  THE EXAMPLES OF THE CHAPTER: sanity.
-/
import Derived.Test.YtkpigonlnabmdabLinF
import Derived.Deep.RegionHeld
namespace Go.Proofs.Ytkpigonlnabmdab
open Go.RowKit Go.ChangeShapes Go.WideShapes Go.ChangeAt

/-- A piece of code by itself: it ends in one frame, whatever the order inside. -/
theorem wp_cutE {P : Program} {c : Code} {Q : Exit → Act → World → Prop} {a : Act} {w : World} (R : World → Prop) (h : ∃ fin : Act, c.wp P (fun e a' w' => e = .normal ∧ a' = fin ∧ R w') a w ∧ ∀ w', R w' → Q .normal fin w') : c.wp P Q a w := by
  obtain ⟨fin, h1, h2⟩ := h
  exact wp_mono h1 (by rintro e a1 w1 ⟨rfl, rfl, h3⟩; exact h2 _ h3)
set_option maxRecDepth 100000 in
theorem out_any (p v : Int) (w : World) : Calls Try.prog 23 #[.int .i64 p, .int .u32 v] w fun e w' => e = .returned (.agg #[.bool false, .int .i64 p, .int .u32 v]) ∧ Later w w' := by
  go_enter Try.func23, Try.ntmps23
  go_wp2
  exact bodyPost_ret (results_blk Try.results23 _ _ w.heap.size 28 (ioC false p v) _ rfl (Blk.new _ _ _ _ rfl) Try.underlying28 rfl (io_sz _ _ _)) rfl ⟨rfl, later1 _ _⟩
def s0 : Ctl := kN 2
def s1 : Ctl := s0.out 1 0 31
def s2 : Ctl := s1.raise 2 1
def s3 : Ctl := s2.out 1 4 33
def s4 : Ctl := s3.raise 2 0
def s5 : Ctl := s4.out 1 2 2
def s6 : Ctl := s5.out 0 3 1
def s7 : Ctl := s6.out 0 0 4
theorem s0_ok : s0.Ok ∧ s0.wf := by
  refine ⟨⟨by decide, by decide, fun k _ => ?_, fun k _ => ?_⟩, ⟨by unfold i64; decide, fun k _ => ?_, fun k _ => ?_, fun k _ => ?_⟩⟩
  · exact ⟨(show (0 : Int) < 32 by decide), (show (0 : Int) < 32 by decide), fun _ => ⟨rfl, rfl⟩⟩
  · exact ⟨(show (0 : Int) ≤ 0 by decide), (show (0 : Int) < 2 by decide), fun _ => rfl⟩
  · exact ⟨(show (0 : Int) ≤ 0 by decide), (show (0 : Int) < 4294967296 by decide)⟩
  · exact ⟨(show (0 : Int) ≤ 0 by decide), (show (0 : Int) < 4294967296 by decide)⟩
  · exact ⟨(show (-9223372036854775808 : Int) ≤ 0 by decide), (show (0 : Int) ≤ 9223372036854775807 by decide)⟩
theorem s1_ok : s1.Ok ∧ s1.wf := s0_ok.1.outed s0_ok.2 (by decide) ⟨by decide, by decide⟩
theorem s2_ok : s2.Ok ∧ s2.wf := s1_ok.1.raised s1_ok.2 (by decide)
theorem s3_ok : s3.Ok ∧ s3.wf := s2_ok.1.outed s2_ok.2 (by decide) ⟨by decide, by decide⟩
theorem s4_ok : s4.Ok ∧ s4.wf := s3_ok.1.raised s3_ok.2 (by decide)
theorem s5_ok : s5.Ok ∧ s5.wf := s4_ok.1.outed s4_ok.2 (by decide) ⟨by decide, by decide⟩
theorem s6_ok : s6.Ok ∧ s6.wf := s5_ok.1.outed s5_ok.2 (by decide) ⟨by decide, by decide⟩
theorem s7_ok : s7.Ok ∧ s7.wf := s6_ok.1.outed s6_ok.2 (by decide) ⟨by decide, by decide⟩
theorem c_new (w : World) : Calls Try.prog 8 #[.int .i64 2] w fun e w' => e = .returned (.tuple #[.agg s0.cells.toArray, .int .i64 0]) ∧ Later w w' := new_any 2 w
theorem c_valid (w : World) : Calls Try.prog 10 #[.agg s1.cells.toArray] w fun e w' => e = .returned (.bool true) ∧ Later w w' := valid_any s1 true w s1_ok.2 (by simp [s1_ok.1])
theorem p_1 (w : World) : Calls Try.prog 12 #[.agg s0.cells.toArray, .int .i64 1, .agg #[.bool false, .int .i64 0, .int .u32 31]] w fun e w' => e = .returned (.tuple #[.agg s1.cells.toArray, .int .u32 0, .int .i64 0]) ∧ Later w w' := by
  have h := port_any s0 1 false 0 31 w s0_ok.1 s0_ok.2 (by decide) ⟨by decide, by decide⟩
  rw [show s0.val 1 false 0 = 0 from by decide +kernel, show pErr false 0 = 0 from by decide] at h
  exact h
theorem r_2 (w : World) : Calls Try.prog 14 #[.agg s1.cells.toArray, .int .i64 2, .int .i64 1] w fun e w' => e = .returned (.agg s2.cells.toArray) ∧ Later w w' := raise_any s1 2 1 w s1_ok.1 s1_ok.2 (by decide)
theorem q_20 (w : World) : Calls Try.prog 16 #[.agg s2.cells.toArray, .int .i64 0] w fun e w' => e = .returned (.int .u32 0) ∧ Later w w' := by
  have h := pending_any s2 0 w s2_ok.1 s2_ok.2 (by decide)
  rw [show s2.pend 0 = 0 from by decide +kernel] at h
  exact h
theorem q_21 (w : World) : Calls Try.prog 16 #[.agg s2.cells.toArray, .int .i64 1] w fun e w' => e = .returned (.int .u32 0) ∧ Later w w' := by
  have h := pending_any s2 1 w s2_ok.1 s2_ok.2 (by decide)
  rw [show s2.pend 1 = 0 from by decide +kernel] at h
  exact h
theorem p_3 (w : World) : Calls Try.prog 12 #[.agg s2.cells.toArray, .int .i64 1, .agg #[.bool false, .int .i64 4, .int .u32 33]] w fun e w' => e = .returned (.tuple #[.agg s3.cells.toArray, .int .u32 0, .int .i64 0]) ∧ Later w w' := by
  have h := port_any s2 1 false 4 33 w s2_ok.1 s2_ok.2 (by decide) ⟨by decide, by decide⟩
  rw [show s2.val 1 false 4 = 0 from by decide +kernel, show pErr false 4 = 0 from by decide] at h
  exact h
theorem r_4 (w : World) : Calls Try.prog 14 #[.agg s3.cells.toArray, .int .i64 2, .int .i64 0] w fun e w' => e = .returned (.agg s4.cells.toArray) ∧ Later w w' := raise_any s3 2 0 w s3_ok.1 s3_ok.2 (by decide)
theorem q_41 (w : World) : Calls Try.prog 16 #[.agg s4.cells.toArray, .int .i64 1] w fun e w' => e = .returned (.int .u32 4) ∧ Later w w' := by
  have h := pending_any s4 1 w s4_ok.1 s4_ok.2 (by decide)
  rw [show s4.pend 1 = 4 from by decide +kernel] at h
  exact h
theorem p_5 (w : World) : Calls Try.prog 12 #[.agg s4.cells.toArray, .int .i64 1, .agg #[.bool false, .int .i64 2, .int .u32 2]] w fun e w' => e = .returned (.tuple #[.agg s5.cells.toArray, .int .u32 0, .int .i64 0]) ∧ Later w w' := by
  have h := port_any s4 1 false 2 2 w s4_ok.1 s4_ok.2 (by decide) ⟨by decide, by decide⟩
  rw [show s4.val 1 false 2 = 0 from by decide +kernel, show pErr false 2 = 0 from by decide] at h
  exact h
theorem q_51 (w : World) : Calls Try.prog 16 #[.agg s5.cells.toArray, .int .i64 1] w fun e w' => e = .returned (.int .u32 0) ∧ Later w w' := by
  have h := pending_any s5 1 w s5_ok.1 s5_ok.2 (by decide)
  rw [show s5.pend 1 = 0 from by decide +kernel] at h
  exact h
theorem p_6 (w : World) : Calls Try.prog 12 #[.agg s5.cells.toArray, .int .i64 0, .agg #[.bool false, .int .i64 3, .int .u32 1]] w fun e w' => e = .returned (.tuple #[.agg s6.cells.toArray, .int .u32 0, .int .i64 0]) ∧ Later w w' := by
  have h := port_any s5 0 false 3 1 w s5_ok.1 s5_ok.2 (by decide) ⟨by decide, by decide⟩
  rw [show s5.val 0 false 3 = 0 from by decide +kernel, show pErr false 3 = 0 from by decide] at h
  exact h
theorem p_6i (w : World) : Calls Try.prog 12 #[.agg s6.cells.toArray, .int .i64 1, .agg #[.bool true, .int .i64 1, .int .u32 0]] w fun e w' => e = .returned (.tuple #[.agg s6.cells.toArray, .int .u32 16, .int .i64 0]) ∧ Later w w' := by
  have h := port_any s6 1 true 1 0 w s6_ok.1 s6_ok.2 (by decide) ⟨by decide, by decide⟩
  rw [show s6.val 1 true 1 = 16 from by decide +kernel, show pErr true 1 = 0 from by decide] at h
  exact h
theorem q_61 (w : World) : Calls Try.prog 16 #[.agg s6.cells.toArray, .int .i64 1] w fun e w' => e = .returned (.int .u32 16) ∧ Later w w' := by
  have h := pending_any s6 1 w s6_ok.1 s6_ok.2 (by decide)
  rw [show s6.pend 1 = 16 from by decide +kernel] at h
  exact h
theorem p_7 (w : World) : Calls Try.prog 12 #[.agg s6.cells.toArray, .int .i64 0, .agg #[.bool false, .int .i64 0, .int .u32 4]] w fun e w' => e = .returned (.tuple #[.agg s7.cells.toArray, .int .u32 0, .int .i64 0]) ∧ Later w w' := by
  have h := port_any s6 0 false 0 4 w s6_ok.1 s6_ok.2 (by decide) ⟨by decide, by decide⟩
  rw [show s6.val 0 false 0 = 0 from by decide +kernel, show pErr false 0 = 0 from by decide] at h
  exact h
theorem p_a (w : World) : Calls Try.prog 12 #[.agg s7.cells.toArray, .int .i64 0, .agg #[.bool true, .int .i64 2, .int .u32 0]] w fun e w' => e = .returned (.tuple #[.agg s7.cells.toArray, .int .u32 0, .int .i64 5]) ∧ Later w w' := by
  have h := port_any s7 0 true 2 0 w s7_ok.1 s7_ok.2 (by decide) ⟨by decide, by decide⟩
  rw [show s7.val 0 true 2 = 0 from by decide +kernel, show pErr true 2 = 5 from by decide] at h
  exact h
theorem p_b (w : World) : Calls Try.prog 12 #[.agg s7.cells.toArray, .int .i64 0, .agg #[.bool false, .int .i64 1, .int .u32 1]] w fun e w' => e = .returned (.tuple #[.agg s7.cells.toArray, .int .u32 0, .int .i64 5]) ∧ Later w w' := by
  have h := port_any s7 0 false 1 1 w s7_ok.1 s7_ok.2 (by decide) ⟨by decide, by decide⟩
  rw [show s7.val 0 false 1 = 0 from by decide +kernel, show pErr false 1 = 5 from by decide] at h
  exact h
theorem p_c (w : World) : Calls Try.prog 12 #[.agg s7.cells.toArray, .int .i64 0, .agg #[.bool true, .int .i64 5, .int .u32 0]] w fun e w' => e = .returned (.tuple #[.agg s7.cells.toArray, .int .u32 0, .int .i64 5]) ∧ Later w w' := by
  have h := port_any s7 0 true 5 0 w s7_ok.1 s7_ok.2 (by decide) ⟨by decide, by decide⟩
  rw [show s7.val 0 true 5 = 0 from by decide +kernel, show pErr true 5 = 5 from by decide] at h
  exact h
theorem q_70 (w : World) : Calls Try.prog 16 #[.agg s7.cells.toArray, .int .i64 0] w fun e w' => e = .returned (.int .u32 4) ∧ Later w w' := by
  have h := pending_any s7 0 w s7_ok.1 s7_ok.2 (by decide)
  rw [show s7.pend 0 = 4 from by decide +kernel] at h
  exact h
set_option maxRecDepth 100000 in
set_option maxHeartbeats 8000000 in
theorem sanity_any (w : World) : Calls Try.prog 11 #[] w fun e w' => e = .returned (.bool true) ∧ Later w w' := by
  go_enter Try.func11, Try.ntmps11
  go_upto_region 2 with (first
    | (go_at_call 8; (with_reducible refine (c_new _).mono ?_); rintro e w1 ⟨rfl, l1⟩)
    | ((with_reducible refine wpList_store_abs (o := ⟨none, .store 26 (.tmp 1) (.tmp 31), _, _, _, none⟩) rfl _ _ _ rfl w1.heap.size 26 zK.cells s0.cells ?_ ?_ ?_ ?_ ?_ ?_ ?_); rfl; rfl; exact (Blk.new _ _ _ _ rfl); exact ctl_sz _; rfl; exact ctl_one _; intro u2 b1 o1; have lw := Below.only (Below.alloc l1 l1.size (.cells zK.cells.toArray 26)) o1 l1.size))
  have hlt : w.heap.size ≤ w1.heap.size := l1.size
  clear o1 l1
  go_cut [3, 4] (fun q3 q4 wx => q3 = .int .u32 0 ∧ q4 = .int .i64 0 ∧ Blk wx w1.heap.size 26 s1.cells ∧ Later w wx)
  case first =>
    replace b1 := b1.drew
    replace lw := lw.drew
    refine wp_region_held_drew (S := fun w' => True) (by kernel_rfl) trivial (fun hHeld => ?_)
    refine wpAnyH_ready (rs := [0, 1]) (by kernel_rfl) (by simp) (AllReadyH.cons (o := ⟨some 34, .load 26 (.tmp 1), _, _, _, none⟩) rfl (fun K' hK => ?_) (AllReadyH.cons (o := ⟨some 35, .call { callee := .value (.func 23), args := #[.const (.int .i64 0), .const (.int .u32 31)], argTypes := #[3, 22] }, _, _, _, none⟩) rfl (fun K' hK => ?_) AllReadyH.nil))
    · refine wp_load_blk 26 _ rfl w1.heap.size 26 s0.cells _ rfl b1 Try.underlying26 rfl (ctl_sz _) ?_
      refine hK.out _ _ trivial (fun hHeld => ?_)
      clear hK K'
      try simp only [Act.put, List.setIfInBounds_toArray, List.set_cons_zero, List.set_cons_succ]
      refine wpAnyH_ready (rs := [1]) (by kernel_rfl) (by simp) (AllReadyH.cons (o := ⟨some 35, .call { callee := .value (.func 23), args := #[.const (.int .i64 0), .const (.int .u32 31)], argTypes := #[3, 22] }, _, _, _, none⟩) rfl (fun K' hK => ?_) AllReadyH.nil)
      go_simp
      (with_reducible refine (out_any 0 31 _).mono ?_)
      rintro e u1 ⟨rfl, l1⟩
      replace b1 := b1.keep l1
      replace lw := Later.trans_ lw l1
      refine hK.out _ _ trivial (fun hHeld => ?_)
      clear hK K'
      try simp only [Act.put, List.setIfInBounds_toArray, List.set_cons_zero, List.set_cons_succ]
      refine wpAnyH_ready (rs := [2]) (by kernel_rfl) (by simp) (AllReadyH.cons (o := ⟨some 36, .call { callee := .value (.func 12), args := #[.tmp 34, .const (.int .i64 1), .tmp 35], argTypes := #[26, 3, 28] }, _, _, _, none⟩) rfl (fun K' hK => ?_) AllReadyH.nil)
      go_simp
      (with_reducible refine (p_1 _).mono ?_)
      rintro e u1 ⟨rfl, l1⟩
      replace b1 := b1.keep l1
      replace lw := Later.trans_ lw l1
      refine hK.out _ _ trivial (fun hHeld => ?_)
      clear hK K'
      try simp only [Act.put, List.setIfInBounds_toArray, List.set_cons_zero, List.set_cons_succ]
      refine wpAnyH_take (i := 3) (oi := ⟨some 33, .move (.tmp 36), _, _, _, none⟩) (v := (.tuple #[.agg s1.cells.toArray, .int .u32 0, .int .i64 0])) rfl (by kernel_rfl) (by kernel_rfl) (by kernel_rfl) (fun _ _ _ h => h) (Or.inl ⟨by rfl, fun _ _ => rfl⟩) hHeld ?_
      simp only [Act.put, List.setIfInBounds_toArray, List.set_cons_zero, List.set_cons_succ]
      refine wpAnyH_take (i := 4) (oi := ⟨some 37, .extract (.tmp 33) 0, _, _, _, none⟩) (v := .agg s1.cells.toArray) rfl (by kernel_rfl) (by kernel_rfl) (by kernel_rfl) (fun _ _ _ h => h) (Or.inl ⟨by rfl, fun w _ => by go_simp⟩) hHeld ?_
      simp only [Act.put, List.setIfInBounds_toArray, List.set_cons_zero, List.set_cons_succ]
      refine wpAnyH_take (i := 5) (oi := ⟨some 38, .extract (.tmp 33) 1, _, _, _, none⟩) (v := .int .u32 0) rfl (by kernel_rfl) (by kernel_rfl) (by kernel_rfl) (fun _ _ _ h => h) (Or.inl ⟨by rfl, fun w _ => by go_simp⟩) hHeld ?_
      simp only [Act.put, List.setIfInBounds_toArray, List.set_cons_zero, List.set_cons_succ]
      refine wpAnyH_take (i := 6) (oi := ⟨some 39, .extract (.tmp 33) 2, _, _, _, none⟩) (v := .int .i64 0) rfl (by kernel_rfl) (by kernel_rfl) (by kernel_rfl) (fun _ _ _ h => h) (Or.inl ⟨by rfl, fun w _ => by go_simp⟩) hHeld ?_
      simp only [Act.put, List.setIfInBounds_toArray, List.set_cons_zero, List.set_cons_succ]
      refine wpAnyH_ready (rs := [7]) (by kernel_rfl) (by simp) (AllReadyH.cons (o := ⟨none, .store 26 (.tmp 1) (.tmp 37), _, _, _, none⟩) rfl (fun K' hK => ?_) AllReadyH.nil)
      refine wp_store_blk 26 _ _ rfl w1.heap.size 26 s0.cells s1.cells rfl rfl b1 (ctl_sz _) rfl (ctl_one _) ?_
      intro wq bq oq
      clear b1
      have b1 := bq
      clear bq
      replace lw := Below.only lw oq hlt
      refine hK.out _ _ trivial (fun hHeld => ?_)
      clear hK K'
      try simp only [Act.put]
      refine wpAnyH_take (i := 8) (oi := ⟨some 3, .assign (.tmp 38), _, _, _, none⟩) (v := .int .u32 0) rfl (by kernel_rfl) (by kernel_rfl) (by kernel_rfl) (fun _ _ _ h => h) (Or.inl ⟨by rfl, fun _ _ => rfl⟩) hHeld ?_
      simp only [Act.put, List.setIfInBounds_toArray, List.set_cons_zero, List.set_cons_succ]
      refine wpAnyH_take (i := 9) (oi := ⟨some 4, .assign (.tmp 39), _, _, _, none⟩) (v := .int .i64 0) rfl (by kernel_rfl) (by kernel_rfl) (by kernel_rfl) (fun _ _ _ h => h) (Or.inl ⟨by rfl, fun _ _ => rfl⟩) hHeld ?_
      simp only [Act.put, List.setIfInBounds_toArray, List.set_cons_zero, List.set_cons_succ]
      refine wpAnyH_done (by kernel_rfl) ?_ _
      clear hHeld
      go_wp2
      go_meet
      exact ⟨rfl, rfl, b1, lw⟩
    · go_simp
      (with_reducible refine (out_any 0 31 _).mono ?_)
      rintro e u1 ⟨rfl, l1⟩
      replace b1 := b1.keep l1
      replace lw := Later.trans_ lw l1
      refine hK.out _ _ trivial (fun hHeld => ?_)
      clear hK K'
      try simp only [Act.put, List.setIfInBounds_toArray, List.set_cons_zero, List.set_cons_succ]
      refine wpAnyH_ready (rs := [0]) (by kernel_rfl) (by simp) (AllReadyH.cons (o := ⟨some 34, .load 26 (.tmp 1), _, _, _, none⟩) rfl (fun K' hK => ?_) AllReadyH.nil)
      refine wp_load_blk 26 _ rfl w1.heap.size 26 s0.cells _ rfl b1 Try.underlying26 rfl (ctl_sz _) ?_
      refine hK.out _ _ trivial (fun hHeld => ?_)
      clear hK K'
      try simp only [Act.put, List.setIfInBounds_toArray, List.set_cons_zero, List.set_cons_succ]
      refine wpAnyH_ready (rs := [2]) (by kernel_rfl) (by simp) (AllReadyH.cons (o := ⟨some 36, .call { callee := .value (.func 12), args := #[.tmp 34, .const (.int .i64 1), .tmp 35], argTypes := #[26, 3, 28] }, _, _, _, none⟩) rfl (fun K' hK => ?_) AllReadyH.nil)
      go_simp
      (with_reducible refine (p_1 _).mono ?_)
      rintro e u1 ⟨rfl, l1⟩
      replace b1 := b1.keep l1
      replace lw := Later.trans_ lw l1
      refine hK.out _ _ trivial (fun hHeld => ?_)
      clear hK K'
      try simp only [Act.put, List.setIfInBounds_toArray, List.set_cons_zero, List.set_cons_succ]
      refine wpAnyH_take (i := 3) (oi := ⟨some 33, .move (.tmp 36), _, _, _, none⟩) (v := (.tuple #[.agg s1.cells.toArray, .int .u32 0, .int .i64 0])) rfl (by kernel_rfl) (by kernel_rfl) (by kernel_rfl) (fun _ _ _ h => h) (Or.inl ⟨by rfl, fun _ _ => rfl⟩) hHeld ?_
      simp only [Act.put, List.setIfInBounds_toArray, List.set_cons_zero, List.set_cons_succ]
      refine wpAnyH_take (i := 4) (oi := ⟨some 37, .extract (.tmp 33) 0, _, _, _, none⟩) (v := .agg s1.cells.toArray) rfl (by kernel_rfl) (by kernel_rfl) (by kernel_rfl) (fun _ _ _ h => h) (Or.inl ⟨by rfl, fun w _ => by go_simp⟩) hHeld ?_
      simp only [Act.put, List.setIfInBounds_toArray, List.set_cons_zero, List.set_cons_succ]
      refine wpAnyH_take (i := 5) (oi := ⟨some 38, .extract (.tmp 33) 1, _, _, _, none⟩) (v := .int .u32 0) rfl (by kernel_rfl) (by kernel_rfl) (by kernel_rfl) (fun _ _ _ h => h) (Or.inl ⟨by rfl, fun w _ => by go_simp⟩) hHeld ?_
      simp only [Act.put, List.setIfInBounds_toArray, List.set_cons_zero, List.set_cons_succ]
      refine wpAnyH_take (i := 6) (oi := ⟨some 39, .extract (.tmp 33) 2, _, _, _, none⟩) (v := .int .i64 0) rfl (by kernel_rfl) (by kernel_rfl) (by kernel_rfl) (fun _ _ _ h => h) (Or.inl ⟨by rfl, fun w _ => by go_simp⟩) hHeld ?_
      simp only [Act.put, List.setIfInBounds_toArray, List.set_cons_zero, List.set_cons_succ]
      refine wpAnyH_ready (rs := [7]) (by kernel_rfl) (by simp) (AllReadyH.cons (o := ⟨none, .store 26 (.tmp 1) (.tmp 37), _, _, _, none⟩) rfl (fun K' hK => ?_) AllReadyH.nil)
      refine wp_store_blk 26 _ _ rfl w1.heap.size 26 s0.cells s1.cells rfl rfl b1 (ctl_sz _) rfl (ctl_one _) ?_
      intro wq bq oq
      clear b1
      have b1 := bq
      clear bq
      replace lw := Below.only lw oq hlt
      refine hK.out _ _ trivial (fun hHeld => ?_)
      clear hK K'
      try simp only [Act.put]
      refine wpAnyH_take (i := 8) (oi := ⟨some 3, .assign (.tmp 38), _, _, _, none⟩) (v := .int .u32 0) rfl (by kernel_rfl) (by kernel_rfl) (by kernel_rfl) (fun _ _ _ h => h) (Or.inl ⟨by rfl, fun _ _ => rfl⟩) hHeld ?_
      simp only [Act.put, List.setIfInBounds_toArray, List.set_cons_zero, List.set_cons_succ]
      refine wpAnyH_take (i := 9) (oi := ⟨some 4, .assign (.tmp 39), _, _, _, none⟩) (v := .int .i64 0) rfl (by kernel_rfl) (by kernel_rfl) (by kernel_rfl) (fun _ _ _ h => h) (Or.inl ⟨by rfl, fun _ _ => rfl⟩) hHeld ?_
      simp only [Act.put, List.setIfInBounds_toArray, List.set_cons_zero, List.set_cons_succ]
      refine wpAnyH_done (by kernel_rfl) ?_ _
      clear hHeld
      go_wp2
      go_meet
      exact ⟨rfl, rfl, b1, lw⟩
  case rest =>
    clear b1 lw
    obtain ⟨rfl, rfl, b1, lw⟩ := hcut
    go_upto_region 6 with (first
      | ((with_reducible refine wpList_load_g (o := ⟨some 47, .load 26 (.tmp 1), _, _, _, _⟩) _ _ rfl w1.heap.size 26 s1.cells _ ?_ ?_ ?_ Try.underlying26 ?_ (ctl_sz _) ?_); rfl; rfl; exact b1; rfl)
      | (go_at_call 10; (with_reducible refine (c_valid _).mono ?_); rintro e wv ⟨rfl, lv⟩; replace b1 := b1.keep lv; replace lw := Later.trans_ lw lv)
      | ((with_reducible refine wpList_load_blk (o := ⟨some 51, .load 26 (.tmp 1), _, _, _, none⟩) rfl _ _ rfl w1.heap.size 26 s1.cells _ ?_ ?_ Try.underlying26 rfl (ctl_sz _) ?_); rfl; exact b1)
      | (go_at_call 14; (with_reducible refine (r_2 _).mono ?_); rintro e wr ⟨rfl, lr⟩; replace b1 := b1.keep lr; replace lw := Later.trans_ lw lr)
      | ((with_reducible refine wpList_store_abs (o := ⟨none, .store 26 (.tmp 1) (.tmp 52), _, _, _, none⟩) rfl _ _ _ rfl w1.heap.size 26 s1.cells s2.cells ?_ ?_ ?_ ?_ ?_ ?_ ?_); rfl; rfl; exact b1; exact ctl_sz _; rfl; exact ctl_one _; intro wq bq oq; clear b1; have b1 := bq; clear bq; replace lw := Below.only lw oq hlt))
    replace b1 := b1.drew
    replace lw := lw.drew
    refine wp_region_held_drew (S := fun w' => w'.rangeAt w1.heap.size 0 s2.cells) (by kernel_rfl) (show World.rangeAt _ w1.heap.size 0 s2.cells from b1.range 0 14) (fun hHeld => ?_)
    refine wpAnyH_take (i := 0) (oi := ⟨some 53, .load 26 (.tmp 1), _, _, _, none⟩) (v := .agg s2.cells.toArray) rfl (by kernel_rfl) (by kernel_rfl) (by kernel_rfl) (fun _ _ _ h => h) (yieldsIf_load_mid (by rfl) _ _ rfl _ _ rfl s2.cells _ (fun w h => h) Try.underlying26 rfl (ctl_sz _)) hHeld ?_
    simp only [Act.put, List.setIfInBounds_toArray, List.set_cons_zero, List.set_cons_succ]
    refine wpAnyH_take (i := 2) (oi := ⟨some 55, .load 26 (.tmp 1), _, _, _, none⟩) (v := .agg s2.cells.toArray) rfl (by kernel_rfl) (by kernel_rfl) (by kernel_rfl) (fun _ _ _ h => h) (yieldsIf_load_mid (by rfl) _ _ rfl _ _ rfl s2.cells _ (fun w h => h) Try.underlying26 rfl (ctl_sz _)) hHeld ?_
    simp only [Act.put, List.setIfInBounds_toArray, List.set_cons_zero, List.set_cons_succ]
    refine wpAnyH_ready (rs := [1]) (by kernel_rfl) (by simp) (AllReadyH.cons (o := ⟨some 54, .call { callee := .value (.func 16), args := #[.tmp 53, .const (.int .i64 0)], argTypes := #[26, 3] }, _, _, _, none⟩) rfl (fun K' hK => ?_) (AllReadyH.nil))
    go_simp
    (with_reducible refine (q_20 _).mono ?_)
    rintro e u1 ⟨rfl, l1⟩
    replace b1 := b1.keep l1
    replace lw := Later.trans_ lw l1
    refine hK.out _ _ (show World.rangeAt _ w1.heap.size 0 s2.cells from b1.range 0 14) (fun hHeld => ?_)
    clear hK K'
    try simp only [Act.put, List.setIfInBounds_toArray, List.set_cons_zero, List.set_cons_succ]
    refine wpAnyH_ready (rs := [3]) (by kernel_rfl) (by simp) (AllReadyH.cons (o := ⟨some 56, .call { callee := .value (.func 16), args := #[.tmp 55, .const (.int .i64 1)], argTypes := #[26, 3] }, _, _, _, none⟩) rfl (fun K' hK => ?_) (AllReadyH.nil))
    go_simp
    (with_reducible refine (q_21 _).mono ?_)
    rintro e u1 ⟨rfl, l1⟩
    replace b1 := b1.keep l1
    replace lw := Later.trans_ lw l1
    refine hK.out _ _ (show World.rangeAt _ w1.heap.size 0 s2.cells from b1.range 0 14) (fun hHeld => ?_)
    clear hK K'
    try simp only [Act.put, List.setIfInBounds_toArray, List.set_cons_zero, List.set_cons_succ]
    refine wpAnyH_take (i := 4) (oi := ⟨some 5, .assign (.tmp 54), _, _, _, none⟩) (v := .int .u32 0) rfl (by kernel_rfl) (by kernel_rfl) (by kernel_rfl) (fun _ _ _ h => h) (Or.inl ⟨by rfl, fun _ _ => rfl⟩) hHeld ?_
    simp only [Act.put, List.setIfInBounds_toArray, List.set_cons_zero, List.set_cons_succ]
    refine wpAnyH_take (i := 5) (oi := ⟨some 6, .assign (.tmp 56), _, _, _, none⟩) (v := .int .u32 0) rfl (by kernel_rfl) (by kernel_rfl) (by kernel_rfl) (fun _ _ _ h => h) (Or.inl ⟨by rfl, fun _ _ => rfl⟩) hHeld ?_
    simp only [Act.put, List.setIfInBounds_toArray, List.set_cons_zero, List.set_cons_succ]
    refine wpAnyH_done (by kernel_rfl) ?_ _
    clear hHeld
    go_upto_region 7 with fail
    go_cut [7, 8] (fun q7 q8 wx => q7 = .int .u32 0 ∧ q8 = .int .i64 0 ∧ Blk wx w1.heap.size 26 s3.cells ∧ Later w wx)
    case first =>
      replace b1 := b1.drew
      replace lw := lw.drew
      refine wp_region_held_drew (S := fun w' => True) (by kernel_rfl) trivial (fun hHeld => ?_)
      refine wpAnyH_ready (rs := [0, 1]) (by kernel_rfl) (by simp) (AllReadyH.cons (o := ⟨some 58, .load 26 (.tmp 1), _, _, _, none⟩) rfl (fun K' hK => ?_) (AllReadyH.cons (o := ⟨some 59, .call { callee := .value (.func 23), args := #[.const (.int .i64 4), .const (.int .u32 33)], argTypes := #[3, 22] }, _, _, _, none⟩) rfl (fun K' hK => ?_) AllReadyH.nil))
      · refine wp_load_blk 26 _ rfl w1.heap.size 26 s2.cells _ rfl b1 Try.underlying26 rfl (ctl_sz _) ?_
        refine hK.out _ _ trivial (fun hHeld => ?_)
        clear hK K'
        try simp only [Act.put, List.setIfInBounds_toArray, List.set_cons_zero, List.set_cons_succ]
        refine wpAnyH_ready (rs := [1]) (by kernel_rfl) (by simp) (AllReadyH.cons (o := ⟨some 59, .call { callee := .value (.func 23), args := #[.const (.int .i64 4), .const (.int .u32 33)], argTypes := #[3, 22] }, _, _, _, none⟩) rfl (fun K' hK => ?_) AllReadyH.nil)
        go_simp
        (with_reducible refine (out_any 4 33 _).mono ?_)
        rintro e u1 ⟨rfl, l1⟩
        replace b1 := b1.keep l1
        replace lw := Later.trans_ lw l1
        refine hK.out _ _ trivial (fun hHeld => ?_)
        clear hK K'
        try simp only [Act.put, List.setIfInBounds_toArray, List.set_cons_zero, List.set_cons_succ]
        refine wpAnyH_ready (rs := [2]) (by kernel_rfl) (by simp) (AllReadyH.cons (o := ⟨some 60, .call { callee := .value (.func 12), args := #[.tmp 58, .const (.int .i64 1), .tmp 59], argTypes := #[26, 3, 28] }, _, _, _, none⟩) rfl (fun K' hK => ?_) AllReadyH.nil)
        go_simp
        (with_reducible refine (p_3 _).mono ?_)
        rintro e u1 ⟨rfl, l1⟩
        replace b1 := b1.keep l1
        replace lw := Later.trans_ lw l1
        refine hK.out _ _ trivial (fun hHeld => ?_)
        clear hK K'
        try simp only [Act.put, List.setIfInBounds_toArray, List.set_cons_zero, List.set_cons_succ]
        refine wpAnyH_take (i := 3) (oi := ⟨some 57, .move (.tmp 60), _, _, _, none⟩) (v := (.tuple #[.agg s3.cells.toArray, .int .u32 0, .int .i64 0])) rfl (by kernel_rfl) (by kernel_rfl) (by kernel_rfl) (fun _ _ _ h => h) (Or.inl ⟨by rfl, fun _ _ => rfl⟩) hHeld ?_
        simp only [Act.put, List.setIfInBounds_toArray, List.set_cons_zero, List.set_cons_succ]
        refine wpAnyH_take (i := 4) (oi := ⟨some 61, .extract (.tmp 57) 0, _, _, _, none⟩) (v := .agg s3.cells.toArray) rfl (by kernel_rfl) (by kernel_rfl) (by kernel_rfl) (fun _ _ _ h => h) (Or.inl ⟨by rfl, fun w _ => by go_simp⟩) hHeld ?_
        simp only [Act.put, List.setIfInBounds_toArray, List.set_cons_zero, List.set_cons_succ]
        refine wpAnyH_take (i := 5) (oi := ⟨some 62, .extract (.tmp 57) 1, _, _, _, none⟩) (v := .int .u32 0) rfl (by kernel_rfl) (by kernel_rfl) (by kernel_rfl) (fun _ _ _ h => h) (Or.inl ⟨by rfl, fun w _ => by go_simp⟩) hHeld ?_
        simp only [Act.put, List.setIfInBounds_toArray, List.set_cons_zero, List.set_cons_succ]
        refine wpAnyH_take (i := 6) (oi := ⟨some 63, .extract (.tmp 57) 2, _, _, _, none⟩) (v := .int .i64 0) rfl (by kernel_rfl) (by kernel_rfl) (by kernel_rfl) (fun _ _ _ h => h) (Or.inl ⟨by rfl, fun w _ => by go_simp⟩) hHeld ?_
        simp only [Act.put, List.setIfInBounds_toArray, List.set_cons_zero, List.set_cons_succ]
        refine wpAnyH_ready (rs := [7]) (by kernel_rfl) (by simp) (AllReadyH.cons (o := ⟨none, .store 26 (.tmp 1) (.tmp 61), _, _, _, none⟩) rfl (fun K' hK => ?_) AllReadyH.nil)
        refine wp_store_blk 26 _ _ rfl w1.heap.size 26 s2.cells s3.cells rfl rfl b1 (ctl_sz _) rfl (ctl_one _) ?_
        intro wq bq oq
        clear b1
        have b1 := bq
        clear bq
        replace lw := Below.only lw oq hlt
        refine hK.out _ _ trivial (fun hHeld => ?_)
        clear hK K'
        try simp only [Act.put]
        refine wpAnyH_take (i := 8) (oi := ⟨some 7, .assign (.tmp 62), _, _, _, none⟩) (v := .int .u32 0) rfl (by kernel_rfl) (by kernel_rfl) (by kernel_rfl) (fun _ _ _ h => h) (Or.inl ⟨by rfl, fun _ _ => rfl⟩) hHeld ?_
        simp only [Act.put, List.setIfInBounds_toArray, List.set_cons_zero, List.set_cons_succ]
        refine wpAnyH_take (i := 9) (oi := ⟨some 8, .assign (.tmp 63), _, _, _, none⟩) (v := .int .i64 0) rfl (by kernel_rfl) (by kernel_rfl) (by kernel_rfl) (fun _ _ _ h => h) (Or.inl ⟨by rfl, fun _ _ => rfl⟩) hHeld ?_
        simp only [Act.put, List.setIfInBounds_toArray, List.set_cons_zero, List.set_cons_succ]
        refine wpAnyH_done (by kernel_rfl) ?_ _
        clear hHeld
        go_wp2
        go_meet
        exact ⟨rfl, rfl, b1, lw⟩
      · go_simp
        (with_reducible refine (out_any 4 33 _).mono ?_)
        rintro e u1 ⟨rfl, l1⟩
        replace b1 := b1.keep l1
        replace lw := Later.trans_ lw l1
        refine hK.out _ _ trivial (fun hHeld => ?_)
        clear hK K'
        try simp only [Act.put, List.setIfInBounds_toArray, List.set_cons_zero, List.set_cons_succ]
        refine wpAnyH_ready (rs := [0]) (by kernel_rfl) (by simp) (AllReadyH.cons (o := ⟨some 58, .load 26 (.tmp 1), _, _, _, none⟩) rfl (fun K' hK => ?_) AllReadyH.nil)
        refine wp_load_blk 26 _ rfl w1.heap.size 26 s2.cells _ rfl b1 Try.underlying26 rfl (ctl_sz _) ?_
        refine hK.out _ _ trivial (fun hHeld => ?_)
        clear hK K'
        try simp only [Act.put, List.setIfInBounds_toArray, List.set_cons_zero, List.set_cons_succ]
        refine wpAnyH_ready (rs := [2]) (by kernel_rfl) (by simp) (AllReadyH.cons (o := ⟨some 60, .call { callee := .value (.func 12), args := #[.tmp 58, .const (.int .i64 1), .tmp 59], argTypes := #[26, 3, 28] }, _, _, _, none⟩) rfl (fun K' hK => ?_) AllReadyH.nil)
        go_simp
        (with_reducible refine (p_3 _).mono ?_)
        rintro e u1 ⟨rfl, l1⟩
        replace b1 := b1.keep l1
        replace lw := Later.trans_ lw l1
        refine hK.out _ _ trivial (fun hHeld => ?_)
        clear hK K'
        try simp only [Act.put, List.setIfInBounds_toArray, List.set_cons_zero, List.set_cons_succ]
        refine wpAnyH_take (i := 3) (oi := ⟨some 57, .move (.tmp 60), _, _, _, none⟩) (v := (.tuple #[.agg s3.cells.toArray, .int .u32 0, .int .i64 0])) rfl (by kernel_rfl) (by kernel_rfl) (by kernel_rfl) (fun _ _ _ h => h) (Or.inl ⟨by rfl, fun _ _ => rfl⟩) hHeld ?_
        simp only [Act.put, List.setIfInBounds_toArray, List.set_cons_zero, List.set_cons_succ]
        refine wpAnyH_take (i := 4) (oi := ⟨some 61, .extract (.tmp 57) 0, _, _, _, none⟩) (v := .agg s3.cells.toArray) rfl (by kernel_rfl) (by kernel_rfl) (by kernel_rfl) (fun _ _ _ h => h) (Or.inl ⟨by rfl, fun w _ => by go_simp⟩) hHeld ?_
        simp only [Act.put, List.setIfInBounds_toArray, List.set_cons_zero, List.set_cons_succ]
        refine wpAnyH_take (i := 5) (oi := ⟨some 62, .extract (.tmp 57) 1, _, _, _, none⟩) (v := .int .u32 0) rfl (by kernel_rfl) (by kernel_rfl) (by kernel_rfl) (fun _ _ _ h => h) (Or.inl ⟨by rfl, fun w _ => by go_simp⟩) hHeld ?_
        simp only [Act.put, List.setIfInBounds_toArray, List.set_cons_zero, List.set_cons_succ]
        refine wpAnyH_take (i := 6) (oi := ⟨some 63, .extract (.tmp 57) 2, _, _, _, none⟩) (v := .int .i64 0) rfl (by kernel_rfl) (by kernel_rfl) (by kernel_rfl) (fun _ _ _ h => h) (Or.inl ⟨by rfl, fun w _ => by go_simp⟩) hHeld ?_
        simp only [Act.put, List.setIfInBounds_toArray, List.set_cons_zero, List.set_cons_succ]
        refine wpAnyH_ready (rs := [7]) (by kernel_rfl) (by simp) (AllReadyH.cons (o := ⟨none, .store 26 (.tmp 1) (.tmp 61), _, _, _, none⟩) rfl (fun K' hK => ?_) AllReadyH.nil)
        refine wp_store_blk 26 _ _ rfl w1.heap.size 26 s2.cells s3.cells rfl rfl b1 (ctl_sz _) rfl (ctl_one _) ?_
        intro wq bq oq
        clear b1
        have b1 := bq
        clear bq
        replace lw := Below.only lw oq hlt
        refine hK.out _ _ trivial (fun hHeld => ?_)
        clear hK K'
        try simp only [Act.put]
        refine wpAnyH_take (i := 8) (oi := ⟨some 7, .assign (.tmp 62), _, _, _, none⟩) (v := .int .u32 0) rfl (by kernel_rfl) (by kernel_rfl) (by kernel_rfl) (fun _ _ _ h => h) (Or.inl ⟨by rfl, fun _ _ => rfl⟩) hHeld ?_
        simp only [Act.put, List.setIfInBounds_toArray, List.set_cons_zero, List.set_cons_succ]
        refine wpAnyH_take (i := 9) (oi := ⟨some 8, .assign (.tmp 63), _, _, _, none⟩) (v := .int .i64 0) rfl (by kernel_rfl) (by kernel_rfl) (by kernel_rfl) (fun _ _ _ h => h) (Or.inl ⟨by rfl, fun _ _ => rfl⟩) hHeld ?_
        simp only [Act.put, List.setIfInBounds_toArray, List.set_cons_zero, List.set_cons_succ]
        refine wpAnyH_done (by kernel_rfl) ?_ _
        clear hHeld
        go_wp2
        go_meet
        exact ⟨rfl, rfl, b1, lw⟩
    case rest =>
      clear b1 lw
      obtain ⟨rfl, rfl, b1, lw⟩ := hcut
      go_upto_region 10 with (first
        | ((with_reducible refine wpList_load_blk (o := ⟨some 64, .load 26 (.tmp 1), _, _, _, none⟩) rfl _ _ rfl w1.heap.size 26 s3.cells _ ?_ ?_ Try.underlying26 rfl (ctl_sz _) ?_); rfl; exact b1)
        | (go_at_call 14; (with_reducible refine (r_4 _).mono ?_); rintro e wr2 ⟨rfl, lr⟩; replace b1 := b1.keep lr; replace lw := Later.trans_ lw lr)
        | ((with_reducible refine wpList_store_abs (o := ⟨none, .store 26 (.tmp 1) (.tmp 65), _, _, _, none⟩) rfl _ _ _ rfl w1.heap.size 26 s3.cells s4.cells ?_ ?_ ?_ ?_ ?_ ?_ ?_); rfl; rfl; exact b1; exact ctl_sz _; rfl; exact ctl_one _; intro wq bq oq; clear b1; have b1 := bq; clear bq; replace lw := Below.only lw oq hlt)
        | ((with_reducible refine wpList_load_blk (o := ⟨some 66, .load 26 (.tmp 1), _, _, _, none⟩) rfl _ _ rfl w1.heap.size 26 s4.cells _ ?_ ?_ Try.underlying26 rfl (ctl_sz _) ?_); rfl; exact b1)
        | (go_at_call 16; (with_reducible refine (q_41 _).mono ?_); rintro e wp2 ⟨rfl, lp⟩; replace b1 := b1.keep lp; replace lw := Later.trans_ lw lp))
      go_cut [10, 11] (fun q10 q11 wx => q10 = .int .u32 0 ∧ q11 = .int .i64 0 ∧ Blk wx w1.heap.size 26 s5.cells ∧ Later w wx)
      case first =>
        replace b1 := b1.drew
        replace lw := lw.drew
        refine wp_region_held_drew (S := fun w' => True) (by kernel_rfl) trivial (fun hHeld => ?_)
        refine wpAnyH_ready (rs := [0, 1]) (by kernel_rfl) (by simp) (AllReadyH.cons (o := ⟨some 69, .load 26 (.tmp 1), _, _, _, none⟩) rfl (fun K' hK => ?_) (AllReadyH.cons (o := ⟨some 70, .call { callee := .value (.func 23), args := #[.const (.int .i64 2), .const (.int .u32 2)], argTypes := #[3, 22] }, _, _, _, none⟩) rfl (fun K' hK => ?_) AllReadyH.nil))
        · refine wp_load_blk 26 _ rfl w1.heap.size 26 s4.cells _ rfl b1 Try.underlying26 rfl (ctl_sz _) ?_
          refine hK.out _ _ trivial (fun hHeld => ?_)
          clear hK K'
          try simp only [Act.put, List.setIfInBounds_toArray, List.set_cons_zero, List.set_cons_succ]
          refine wpAnyH_ready (rs := [1]) (by kernel_rfl) (by simp) (AllReadyH.cons (o := ⟨some 70, .call { callee := .value (.func 23), args := #[.const (.int .i64 2), .const (.int .u32 2)], argTypes := #[3, 22] }, _, _, _, none⟩) rfl (fun K' hK => ?_) AllReadyH.nil)
          go_simp
          (with_reducible refine (out_any 2 2 _).mono ?_)
          rintro e u1 ⟨rfl, l1⟩
          replace b1 := b1.keep l1
          replace lw := Later.trans_ lw l1
          refine hK.out _ _ trivial (fun hHeld => ?_)
          clear hK K'
          try simp only [Act.put, List.setIfInBounds_toArray, List.set_cons_zero, List.set_cons_succ]
          refine wpAnyH_ready (rs := [2]) (by kernel_rfl) (by simp) (AllReadyH.cons (o := ⟨some 71, .call { callee := .value (.func 12), args := #[.tmp 69, .const (.int .i64 1), .tmp 70], argTypes := #[26, 3, 28] }, _, _, _, none⟩) rfl (fun K' hK => ?_) AllReadyH.nil)
          go_simp
          (with_reducible refine (p_5 _).mono ?_)
          rintro e u1 ⟨rfl, l1⟩
          replace b1 := b1.keep l1
          replace lw := Later.trans_ lw l1
          refine hK.out _ _ trivial (fun hHeld => ?_)
          clear hK K'
          try simp only [Act.put, List.setIfInBounds_toArray, List.set_cons_zero, List.set_cons_succ]
          refine wpAnyH_take (i := 3) (oi := ⟨some 68, .move (.tmp 71), _, _, _, none⟩) (v := (.tuple #[.agg s5.cells.toArray, .int .u32 0, .int .i64 0])) rfl (by kernel_rfl) (by kernel_rfl) (by kernel_rfl) (fun _ _ _ h => h) (Or.inl ⟨by rfl, fun _ _ => rfl⟩) hHeld ?_
          simp only [Act.put, List.setIfInBounds_toArray, List.set_cons_zero, List.set_cons_succ]
          refine wpAnyH_take (i := 4) (oi := ⟨some 72, .extract (.tmp 68) 0, _, _, _, none⟩) (v := .agg s5.cells.toArray) rfl (by kernel_rfl) (by kernel_rfl) (by kernel_rfl) (fun _ _ _ h => h) (Or.inl ⟨by rfl, fun w _ => by go_simp⟩) hHeld ?_
          simp only [Act.put, List.setIfInBounds_toArray, List.set_cons_zero, List.set_cons_succ]
          refine wpAnyH_take (i := 5) (oi := ⟨some 73, .extract (.tmp 68) 1, _, _, _, none⟩) (v := .int .u32 0) rfl (by kernel_rfl) (by kernel_rfl) (by kernel_rfl) (fun _ _ _ h => h) (Or.inl ⟨by rfl, fun w _ => by go_simp⟩) hHeld ?_
          simp only [Act.put, List.setIfInBounds_toArray, List.set_cons_zero, List.set_cons_succ]
          refine wpAnyH_take (i := 6) (oi := ⟨some 74, .extract (.tmp 68) 2, _, _, _, none⟩) (v := .int .i64 0) rfl (by kernel_rfl) (by kernel_rfl) (by kernel_rfl) (fun _ _ _ h => h) (Or.inl ⟨by rfl, fun w _ => by go_simp⟩) hHeld ?_
          simp only [Act.put, List.setIfInBounds_toArray, List.set_cons_zero, List.set_cons_succ]
          refine wpAnyH_ready (rs := [7]) (by kernel_rfl) (by simp) (AllReadyH.cons (o := ⟨none, .store 26 (.tmp 1) (.tmp 72), _, _, _, none⟩) rfl (fun K' hK => ?_) AllReadyH.nil)
          refine wp_store_blk 26 _ _ rfl w1.heap.size 26 s4.cells s5.cells rfl rfl b1 (ctl_sz _) rfl (ctl_one _) ?_
          intro wq bq oq
          clear b1
          have b1 := bq
          clear bq
          replace lw := Below.only lw oq hlt
          refine hK.out _ _ trivial (fun hHeld => ?_)
          clear hK K'
          try simp only [Act.put]
          refine wpAnyH_take (i := 8) (oi := ⟨some 10, .assign (.tmp 73), _, _, _, none⟩) (v := .int .u32 0) rfl (by kernel_rfl) (by kernel_rfl) (by kernel_rfl) (fun _ _ _ h => h) (Or.inl ⟨by rfl, fun _ _ => rfl⟩) hHeld ?_
          simp only [Act.put, List.setIfInBounds_toArray, List.set_cons_zero, List.set_cons_succ]
          refine wpAnyH_take (i := 9) (oi := ⟨some 11, .assign (.tmp 74), _, _, _, none⟩) (v := .int .i64 0) rfl (by kernel_rfl) (by kernel_rfl) (by kernel_rfl) (fun _ _ _ h => h) (Or.inl ⟨by rfl, fun _ _ => rfl⟩) hHeld ?_
          simp only [Act.put, List.setIfInBounds_toArray, List.set_cons_zero, List.set_cons_succ]
          refine wpAnyH_done (by kernel_rfl) ?_ _
          clear hHeld
          go_wp2
          go_meet
          exact ⟨rfl, rfl, b1, lw⟩
        · go_simp
          (with_reducible refine (out_any 2 2 _).mono ?_)
          rintro e u1 ⟨rfl, l1⟩
          replace b1 := b1.keep l1
          replace lw := Later.trans_ lw l1
          refine hK.out _ _ trivial (fun hHeld => ?_)
          clear hK K'
          try simp only [Act.put, List.setIfInBounds_toArray, List.set_cons_zero, List.set_cons_succ]
          refine wpAnyH_ready (rs := [0]) (by kernel_rfl) (by simp) (AllReadyH.cons (o := ⟨some 69, .load 26 (.tmp 1), _, _, _, none⟩) rfl (fun K' hK => ?_) AllReadyH.nil)
          refine wp_load_blk 26 _ rfl w1.heap.size 26 s4.cells _ rfl b1 Try.underlying26 rfl (ctl_sz _) ?_
          refine hK.out _ _ trivial (fun hHeld => ?_)
          clear hK K'
          try simp only [Act.put, List.setIfInBounds_toArray, List.set_cons_zero, List.set_cons_succ]
          refine wpAnyH_ready (rs := [2]) (by kernel_rfl) (by simp) (AllReadyH.cons (o := ⟨some 71, .call { callee := .value (.func 12), args := #[.tmp 69, .const (.int .i64 1), .tmp 70], argTypes := #[26, 3, 28] }, _, _, _, none⟩) rfl (fun K' hK => ?_) AllReadyH.nil)
          go_simp
          (with_reducible refine (p_5 _).mono ?_)
          rintro e u1 ⟨rfl, l1⟩
          replace b1 := b1.keep l1
          replace lw := Later.trans_ lw l1
          refine hK.out _ _ trivial (fun hHeld => ?_)
          clear hK K'
          try simp only [Act.put, List.setIfInBounds_toArray, List.set_cons_zero, List.set_cons_succ]
          refine wpAnyH_take (i := 3) (oi := ⟨some 68, .move (.tmp 71), _, _, _, none⟩) (v := (.tuple #[.agg s5.cells.toArray, .int .u32 0, .int .i64 0])) rfl (by kernel_rfl) (by kernel_rfl) (by kernel_rfl) (fun _ _ _ h => h) (Or.inl ⟨by rfl, fun _ _ => rfl⟩) hHeld ?_
          simp only [Act.put, List.setIfInBounds_toArray, List.set_cons_zero, List.set_cons_succ]
          refine wpAnyH_take (i := 4) (oi := ⟨some 72, .extract (.tmp 68) 0, _, _, _, none⟩) (v := .agg s5.cells.toArray) rfl (by kernel_rfl) (by kernel_rfl) (by kernel_rfl) (fun _ _ _ h => h) (Or.inl ⟨by rfl, fun w _ => by go_simp⟩) hHeld ?_
          simp only [Act.put, List.setIfInBounds_toArray, List.set_cons_zero, List.set_cons_succ]
          refine wpAnyH_take (i := 5) (oi := ⟨some 73, .extract (.tmp 68) 1, _, _, _, none⟩) (v := .int .u32 0) rfl (by kernel_rfl) (by kernel_rfl) (by kernel_rfl) (fun _ _ _ h => h) (Or.inl ⟨by rfl, fun w _ => by go_simp⟩) hHeld ?_
          simp only [Act.put, List.setIfInBounds_toArray, List.set_cons_zero, List.set_cons_succ]
          refine wpAnyH_take (i := 6) (oi := ⟨some 74, .extract (.tmp 68) 2, _, _, _, none⟩) (v := .int .i64 0) rfl (by kernel_rfl) (by kernel_rfl) (by kernel_rfl) (fun _ _ _ h => h) (Or.inl ⟨by rfl, fun w _ => by go_simp⟩) hHeld ?_
          simp only [Act.put, List.setIfInBounds_toArray, List.set_cons_zero, List.set_cons_succ]
          refine wpAnyH_ready (rs := [7]) (by kernel_rfl) (by simp) (AllReadyH.cons (o := ⟨none, .store 26 (.tmp 1) (.tmp 72), _, _, _, none⟩) rfl (fun K' hK => ?_) AllReadyH.nil)
          refine wp_store_blk 26 _ _ rfl w1.heap.size 26 s4.cells s5.cells rfl rfl b1 (ctl_sz _) rfl (ctl_one _) ?_
          intro wq bq oq
          clear b1
          have b1 := bq
          clear bq
          replace lw := Below.only lw oq hlt
          refine hK.out _ _ trivial (fun hHeld => ?_)
          clear hK K'
          try simp only [Act.put]
          refine wpAnyH_take (i := 8) (oi := ⟨some 10, .assign (.tmp 73), _, _, _, none⟩) (v := .int .u32 0) rfl (by kernel_rfl) (by kernel_rfl) (by kernel_rfl) (fun _ _ _ h => h) (Or.inl ⟨by rfl, fun _ _ => rfl⟩) hHeld ?_
          simp only [Act.put, List.setIfInBounds_toArray, List.set_cons_zero, List.set_cons_succ]
          refine wpAnyH_take (i := 9) (oi := ⟨some 11, .assign (.tmp 74), _, _, _, none⟩) (v := .int .i64 0) rfl (by kernel_rfl) (by kernel_rfl) (by kernel_rfl) (fun _ _ _ h => h) (Or.inl ⟨by rfl, fun _ _ => rfl⟩) hHeld ?_
          simp only [Act.put, List.setIfInBounds_toArray, List.set_cons_zero, List.set_cons_succ]
          refine wpAnyH_done (by kernel_rfl) ?_ _
          clear hHeld
          go_wp2
          go_meet
          exact ⟨rfl, rfl, b1, lw⟩
      case rest =>
        clear b1 lw
        obtain ⟨rfl, rfl, b1, lw⟩ := hcut
        go_upto_region 12 with (first
          | ((with_reducible refine wpList_load_blk (o := ⟨some 75, .load 26 (.tmp 1), _, _, _, none⟩) rfl _ _ rfl w1.heap.size 26 s5.cells _ ?_ ?_ Try.underlying26 rfl (ctl_sz _) ?_); rfl; exact b1)
          | (go_at_call 16; (with_reducible refine (q_51 _).mono ?_); rintro e wp3 ⟨rfl, lp⟩; replace b1 := b1.keep lp; replace lw := Later.trans_ lw lp))
        go_cut [13, 14] (fun q13 q14 wx => q13 = .int .u32 0 ∧ q14 = .int .i64 0 ∧ Blk wx w1.heap.size 26 s6.cells ∧ Later w wx)
        case first =>
          replace b1 := b1.drew
          replace lw := lw.drew
          refine wp_region_held_drew (S := fun w' => True) (by kernel_rfl) trivial (fun hHeld => ?_)
          refine wpAnyH_ready (rs := [0, 1]) (by kernel_rfl) (by simp) (AllReadyH.cons (o := ⟨some 78, .load 26 (.tmp 1), _, _, _, none⟩) rfl (fun K' hK => ?_) (AllReadyH.cons (o := ⟨some 79, .call { callee := .value (.func 23), args := #[.const (.int .i64 3), .const (.int .u32 1)], argTypes := #[3, 22] }, _, _, _, none⟩) rfl (fun K' hK => ?_) AllReadyH.nil))
          · refine wp_load_blk 26 _ rfl w1.heap.size 26 s5.cells _ rfl b1 Try.underlying26 rfl (ctl_sz _) ?_
            refine hK.out _ _ trivial (fun hHeld => ?_)
            clear hK K'
            try simp only [Act.put, List.setIfInBounds_toArray, List.set_cons_zero, List.set_cons_succ]
            refine wpAnyH_ready (rs := [1]) (by kernel_rfl) (by simp) (AllReadyH.cons (o := ⟨some 79, .call { callee := .value (.func 23), args := #[.const (.int .i64 3), .const (.int .u32 1)], argTypes := #[3, 22] }, _, _, _, none⟩) rfl (fun K' hK => ?_) AllReadyH.nil)
            go_simp
            (with_reducible refine (out_any 3 1 _).mono ?_)
            rintro e u1 ⟨rfl, l1⟩
            replace b1 := b1.keep l1
            replace lw := Later.trans_ lw l1
            refine hK.out _ _ trivial (fun hHeld => ?_)
            clear hK K'
            try simp only [Act.put, List.setIfInBounds_toArray, List.set_cons_zero, List.set_cons_succ]
            refine wpAnyH_ready (rs := [2]) (by kernel_rfl) (by simp) (AllReadyH.cons (o := ⟨some 80, .call { callee := .value (.func 12), args := #[.tmp 78, .const (.int .i64 0), .tmp 79], argTypes := #[26, 3, 28] }, _, _, _, none⟩) rfl (fun K' hK => ?_) AllReadyH.nil)
            go_simp
            (with_reducible refine (p_6 _).mono ?_)
            rintro e u1 ⟨rfl, l1⟩
            replace b1 := b1.keep l1
            replace lw := Later.trans_ lw l1
            refine hK.out _ _ trivial (fun hHeld => ?_)
            clear hK K'
            try simp only [Act.put, List.setIfInBounds_toArray, List.set_cons_zero, List.set_cons_succ]
            refine wpAnyH_take (i := 3) (oi := ⟨some 77, .move (.tmp 80), _, _, _, none⟩) (v := (.tuple #[.agg s6.cells.toArray, .int .u32 0, .int .i64 0])) rfl (by kernel_rfl) (by kernel_rfl) (by kernel_rfl) (fun _ _ _ h => h) (Or.inl ⟨by rfl, fun _ _ => rfl⟩) hHeld ?_
            simp only [Act.put, List.setIfInBounds_toArray, List.set_cons_zero, List.set_cons_succ]
            refine wpAnyH_take (i := 4) (oi := ⟨some 81, .extract (.tmp 77) 0, _, _, _, none⟩) (v := .agg s6.cells.toArray) rfl (by kernel_rfl) (by kernel_rfl) (by kernel_rfl) (fun _ _ _ h => h) (Or.inl ⟨by rfl, fun w _ => by go_simp⟩) hHeld ?_
            simp only [Act.put, List.setIfInBounds_toArray, List.set_cons_zero, List.set_cons_succ]
            refine wpAnyH_take (i := 5) (oi := ⟨some 82, .extract (.tmp 77) 1, _, _, _, none⟩) (v := .int .u32 0) rfl (by kernel_rfl) (by kernel_rfl) (by kernel_rfl) (fun _ _ _ h => h) (Or.inl ⟨by rfl, fun w _ => by go_simp⟩) hHeld ?_
            simp only [Act.put, List.setIfInBounds_toArray, List.set_cons_zero, List.set_cons_succ]
            refine wpAnyH_take (i := 6) (oi := ⟨some 83, .extract (.tmp 77) 2, _, _, _, none⟩) (v := .int .i64 0) rfl (by kernel_rfl) (by kernel_rfl) (by kernel_rfl) (fun _ _ _ h => h) (Or.inl ⟨by rfl, fun w _ => by go_simp⟩) hHeld ?_
            simp only [Act.put, List.setIfInBounds_toArray, List.set_cons_zero, List.set_cons_succ]
            refine wpAnyH_ready (rs := [7]) (by kernel_rfl) (by simp) (AllReadyH.cons (o := ⟨none, .store 26 (.tmp 1) (.tmp 81), _, _, _, none⟩) rfl (fun K' hK => ?_) AllReadyH.nil)
            refine wp_store_blk 26 _ _ rfl w1.heap.size 26 s5.cells s6.cells rfl rfl b1 (ctl_sz _) rfl (ctl_one _) ?_
            intro wq bq oq
            clear b1
            have b1 := bq
            clear bq
            replace lw := Below.only lw oq hlt
            refine hK.out _ _ trivial (fun hHeld => ?_)
            clear hK K'
            try simp only [Act.put]
            refine wpAnyH_take (i := 8) (oi := ⟨some 13, .assign (.tmp 82), _, _, _, none⟩) (v := .int .u32 0) rfl (by kernel_rfl) (by kernel_rfl) (by kernel_rfl) (fun _ _ _ h => h) (Or.inl ⟨by rfl, fun _ _ => rfl⟩) hHeld ?_
            simp only [Act.put, List.setIfInBounds_toArray, List.set_cons_zero, List.set_cons_succ]
            refine wpAnyH_take (i := 9) (oi := ⟨some 14, .assign (.tmp 83), _, _, _, none⟩) (v := .int .i64 0) rfl (by kernel_rfl) (by kernel_rfl) (by kernel_rfl) (fun _ _ _ h => h) (Or.inl ⟨by rfl, fun _ _ => rfl⟩) hHeld ?_
            simp only [Act.put, List.setIfInBounds_toArray, List.set_cons_zero, List.set_cons_succ]
            refine wpAnyH_done (by kernel_rfl) ?_ _
            clear hHeld
            go_wp2
            go_meet
            exact ⟨rfl, rfl, b1, lw⟩
          · go_simp
            (with_reducible refine (out_any 3 1 _).mono ?_)
            rintro e u1 ⟨rfl, l1⟩
            replace b1 := b1.keep l1
            replace lw := Later.trans_ lw l1
            refine hK.out _ _ trivial (fun hHeld => ?_)
            clear hK K'
            try simp only [Act.put, List.setIfInBounds_toArray, List.set_cons_zero, List.set_cons_succ]
            refine wpAnyH_ready (rs := [0]) (by kernel_rfl) (by simp) (AllReadyH.cons (o := ⟨some 78, .load 26 (.tmp 1), _, _, _, none⟩) rfl (fun K' hK => ?_) AllReadyH.nil)
            refine wp_load_blk 26 _ rfl w1.heap.size 26 s5.cells _ rfl b1 Try.underlying26 rfl (ctl_sz _) ?_
            refine hK.out _ _ trivial (fun hHeld => ?_)
            clear hK K'
            try simp only [Act.put, List.setIfInBounds_toArray, List.set_cons_zero, List.set_cons_succ]
            refine wpAnyH_ready (rs := [2]) (by kernel_rfl) (by simp) (AllReadyH.cons (o := ⟨some 80, .call { callee := .value (.func 12), args := #[.tmp 78, .const (.int .i64 0), .tmp 79], argTypes := #[26, 3, 28] }, _, _, _, none⟩) rfl (fun K' hK => ?_) AllReadyH.nil)
            go_simp
            (with_reducible refine (p_6 _).mono ?_)
            rintro e u1 ⟨rfl, l1⟩
            replace b1 := b1.keep l1
            replace lw := Later.trans_ lw l1
            refine hK.out _ _ trivial (fun hHeld => ?_)
            clear hK K'
            try simp only [Act.put, List.setIfInBounds_toArray, List.set_cons_zero, List.set_cons_succ]
            refine wpAnyH_take (i := 3) (oi := ⟨some 77, .move (.tmp 80), _, _, _, none⟩) (v := (.tuple #[.agg s6.cells.toArray, .int .u32 0, .int .i64 0])) rfl (by kernel_rfl) (by kernel_rfl) (by kernel_rfl) (fun _ _ _ h => h) (Or.inl ⟨by rfl, fun _ _ => rfl⟩) hHeld ?_
            simp only [Act.put, List.setIfInBounds_toArray, List.set_cons_zero, List.set_cons_succ]
            refine wpAnyH_take (i := 4) (oi := ⟨some 81, .extract (.tmp 77) 0, _, _, _, none⟩) (v := .agg s6.cells.toArray) rfl (by kernel_rfl) (by kernel_rfl) (by kernel_rfl) (fun _ _ _ h => h) (Or.inl ⟨by rfl, fun w _ => by go_simp⟩) hHeld ?_
            simp only [Act.put, List.setIfInBounds_toArray, List.set_cons_zero, List.set_cons_succ]
            refine wpAnyH_take (i := 5) (oi := ⟨some 82, .extract (.tmp 77) 1, _, _, _, none⟩) (v := .int .u32 0) rfl (by kernel_rfl) (by kernel_rfl) (by kernel_rfl) (fun _ _ _ h => h) (Or.inl ⟨by rfl, fun w _ => by go_simp⟩) hHeld ?_
            simp only [Act.put, List.setIfInBounds_toArray, List.set_cons_zero, List.set_cons_succ]
            refine wpAnyH_take (i := 6) (oi := ⟨some 83, .extract (.tmp 77) 2, _, _, _, none⟩) (v := .int .i64 0) rfl (by kernel_rfl) (by kernel_rfl) (by kernel_rfl) (fun _ _ _ h => h) (Or.inl ⟨by rfl, fun w _ => by go_simp⟩) hHeld ?_
            simp only [Act.put, List.setIfInBounds_toArray, List.set_cons_zero, List.set_cons_succ]
            refine wpAnyH_ready (rs := [7]) (by kernel_rfl) (by simp) (AllReadyH.cons (o := ⟨none, .store 26 (.tmp 1) (.tmp 81), _, _, _, none⟩) rfl (fun K' hK => ?_) AllReadyH.nil)
            refine wp_store_blk 26 _ _ rfl w1.heap.size 26 s5.cells s6.cells rfl rfl b1 (ctl_sz _) rfl (ctl_one _) ?_
            intro wq bq oq
            clear b1
            have b1 := bq
            clear bq
            replace lw := Below.only lw oq hlt
            refine hK.out _ _ trivial (fun hHeld => ?_)
            clear hK K'
            try simp only [Act.put]
            refine wpAnyH_take (i := 8) (oi := ⟨some 13, .assign (.tmp 82), _, _, _, none⟩) (v := .int .u32 0) rfl (by kernel_rfl) (by kernel_rfl) (by kernel_rfl) (fun _ _ _ h => h) (Or.inl ⟨by rfl, fun _ _ => rfl⟩) hHeld ?_
            simp only [Act.put, List.setIfInBounds_toArray, List.set_cons_zero, List.set_cons_succ]
            refine wpAnyH_take (i := 9) (oi := ⟨some 14, .assign (.tmp 83), _, _, _, none⟩) (v := .int .i64 0) rfl (by kernel_rfl) (by kernel_rfl) (by kernel_rfl) (fun _ _ _ h => h) (Or.inl ⟨by rfl, fun _ _ => rfl⟩) hHeld ?_
            simp only [Act.put, List.setIfInBounds_toArray, List.set_cons_zero, List.set_cons_succ]
            refine wpAnyH_done (by kernel_rfl) ?_ _
            clear hHeld
            go_wp2
            go_meet
            exact ⟨rfl, rfl, b1, lw⟩
        case rest =>
          clear b1 lw
          obtain ⟨rfl, rfl, b1, lw⟩ := hcut
          go_upto_region 16 with (first
            | ((with_reducible refine wpList_load_blk (o := ⟨some 85, .load 26 (.tmp 1), _, _, _, none⟩) rfl _ _ rfl w1.heap.size 26 s6.cells _ ?_ ?_ Try.underlying26 rfl (ctl_sz _) ?_); rfl; exact b1)
            | (go_at_call 12; (with_reducible refine (p_6i _).mono ?_); rintro e wp4 ⟨rfl, lp⟩; replace b1 := b1.keep lp; replace lw := Later.trans_ lw lp)
            | ((with_reducible refine wpList_store_abs (o := ⟨none, .store 26 (.tmp 15) (.tmp 88), _, _, _, none⟩) rfl _ _ _ rfl wp4.heap.size 26 zK.cells s6.cells ?_ ?_ ?_ ?_ ?_ ?_ ?_); rfl; rfl; exact (Blk.new _ _ _ _ rfl); exact ctl_sz _; rfl; exact ctl_one _; intro wq bq oq; replace b1 := (b1.alloc (.cells zK.cells.toArray 26)).only oq (Nat.ne_of_lt b1.lt); replace lw := Below.only (lw.alloc lw.size (.cells zK.cells.toArray 26)) oq lw.size; clear bq oq)
            | ((with_reducible refine wpList_load_g (o := ⟨some 126, .load 26 (.tmp 1), _, _, _, _⟩) _ _ rfl w1.heap.size 26 s6.cells _ ?_ ?_ ?_ Try.underlying26 ?_ (ctl_sz _) ?_); rfl; rfl; exact b1; rfl)
            | (go_at_call 16; (with_reducible refine (q_61 _).mono ?_); rintro e wp5 ⟨rfl, lp⟩; replace b1 := b1.keep lp; replace lw := Later.trans_ lw lp))
          go_cut [18, 19] (fun q18 q19 wx => q18 = .int .u32 0 ∧ q19 = .int .i64 0 ∧ Blk wx w1.heap.size 26 s7.cells ∧ Later w wx)
          case first =>
            replace b1 := b1.drew
            replace lw := lw.drew
            refine wp_region_held_drew (S := fun w' => True) (by kernel_rfl) trivial (fun hHeld => ?_)
            refine wpAnyH_ready (rs := [0, 1]) (by kernel_rfl) (by simp) (AllReadyH.cons (o := ⟨some 131, .load 26 (.tmp 1), _, _, _, none⟩) rfl (fun K' hK => ?_) (AllReadyH.cons (o := ⟨some 132, .call { callee := .value (.func 23), args := #[.const (.int .i64 0), .const (.int .u32 4)], argTypes := #[3, 22] }, _, _, _, none⟩) rfl (fun K' hK => ?_) AllReadyH.nil))
            · refine wp_load_blk 26 _ rfl w1.heap.size 26 s6.cells _ rfl b1 Try.underlying26 rfl (ctl_sz _) ?_
              refine hK.out _ _ trivial (fun hHeld => ?_)
              clear hK K'
              try simp only [Act.put, List.setIfInBounds_toArray, List.set_cons_zero, List.set_cons_succ]
              refine wpAnyH_ready (rs := [1]) (by kernel_rfl) (by simp) (AllReadyH.cons (o := ⟨some 132, .call { callee := .value (.func 23), args := #[.const (.int .i64 0), .const (.int .u32 4)], argTypes := #[3, 22] }, _, _, _, none⟩) rfl (fun K' hK => ?_) AllReadyH.nil)
              go_simp
              (with_reducible refine (out_any 0 4 _).mono ?_)
              rintro e u1 ⟨rfl, l1⟩
              replace b1 := b1.keep l1
              replace lw := Later.trans_ lw l1
              refine hK.out _ _ trivial (fun hHeld => ?_)
              clear hK K'
              try simp only [Act.put, List.setIfInBounds_toArray, List.set_cons_zero, List.set_cons_succ]
              refine wpAnyH_ready (rs := [2]) (by kernel_rfl) (by simp) (AllReadyH.cons (o := ⟨some 133, .call { callee := .value (.func 12), args := #[.tmp 131, .const (.int .i64 0), .tmp 132], argTypes := #[26, 3, 28] }, _, _, _, none⟩) rfl (fun K' hK => ?_) AllReadyH.nil)
              go_simp
              (with_reducible refine (p_7 _).mono ?_)
              rintro e u1 ⟨rfl, l1⟩
              replace b1 := b1.keep l1
              replace lw := Later.trans_ lw l1
              refine hK.out _ _ trivial (fun hHeld => ?_)
              clear hK K'
              try simp only [Act.put, List.setIfInBounds_toArray, List.set_cons_zero, List.set_cons_succ]
              refine wpAnyH_take (i := 3) (oi := ⟨some 130, .move (.tmp 133), _, _, _, none⟩) (v := (.tuple #[.agg s7.cells.toArray, .int .u32 0, .int .i64 0])) rfl (by kernel_rfl) (by kernel_rfl) (by kernel_rfl) (fun _ _ _ h => h) (Or.inl ⟨by rfl, fun _ _ => rfl⟩) hHeld ?_
              simp only [Act.put, List.setIfInBounds_toArray, List.set_cons_zero, List.set_cons_succ]
              refine wpAnyH_take (i := 4) (oi := ⟨some 134, .extract (.tmp 130) 0, _, _, _, none⟩) (v := .agg s7.cells.toArray) rfl (by kernel_rfl) (by kernel_rfl) (by kernel_rfl) (fun _ _ _ h => h) (Or.inl ⟨by rfl, fun w _ => by go_simp⟩) hHeld ?_
              simp only [Act.put, List.setIfInBounds_toArray, List.set_cons_zero, List.set_cons_succ]
              refine wpAnyH_take (i := 5) (oi := ⟨some 135, .extract (.tmp 130) 1, _, _, _, none⟩) (v := .int .u32 0) rfl (by kernel_rfl) (by kernel_rfl) (by kernel_rfl) (fun _ _ _ h => h) (Or.inl ⟨by rfl, fun w _ => by go_simp⟩) hHeld ?_
              simp only [Act.put, List.setIfInBounds_toArray, List.set_cons_zero, List.set_cons_succ]
              refine wpAnyH_take (i := 6) (oi := ⟨some 136, .extract (.tmp 130) 2, _, _, _, none⟩) (v := .int .i64 0) rfl (by kernel_rfl) (by kernel_rfl) (by kernel_rfl) (fun _ _ _ h => h) (Or.inl ⟨by rfl, fun w _ => by go_simp⟩) hHeld ?_
              simp only [Act.put, List.setIfInBounds_toArray, List.set_cons_zero, List.set_cons_succ]
              refine wpAnyH_ready (rs := [7]) (by kernel_rfl) (by simp) (AllReadyH.cons (o := ⟨none, .store 26 (.tmp 1) (.tmp 134), _, _, _, none⟩) rfl (fun K' hK => ?_) AllReadyH.nil)
              refine wp_store_blk 26 _ _ rfl w1.heap.size 26 s6.cells s7.cells rfl rfl b1 (ctl_sz _) rfl (ctl_one _) ?_
              intro wq bq oq
              clear b1
              have b1 := bq
              clear bq
              replace lw := Below.only lw oq hlt
              refine hK.out _ _ trivial (fun hHeld => ?_)
              clear hK K'
              try simp only [Act.put]
              refine wpAnyH_take (i := 8) (oi := ⟨some 18, .assign (.tmp 135), _, _, _, none⟩) (v := .int .u32 0) rfl (by kernel_rfl) (by kernel_rfl) (by kernel_rfl) (fun _ _ _ h => h) (Or.inl ⟨by rfl, fun _ _ => rfl⟩) hHeld ?_
              simp only [Act.put, List.setIfInBounds_toArray, List.set_cons_zero, List.set_cons_succ]
              refine wpAnyH_take (i := 9) (oi := ⟨some 19, .assign (.tmp 136), _, _, _, none⟩) (v := .int .i64 0) rfl (by kernel_rfl) (by kernel_rfl) (by kernel_rfl) (fun _ _ _ h => h) (Or.inl ⟨by rfl, fun _ _ => rfl⟩) hHeld ?_
              simp only [Act.put, List.setIfInBounds_toArray, List.set_cons_zero, List.set_cons_succ]
              refine wpAnyH_done (by kernel_rfl) ?_ _
              clear hHeld
              go_wp2
              go_meet
              exact ⟨rfl, rfl, b1, lw⟩
            · go_simp
              (with_reducible refine (out_any 0 4 _).mono ?_)
              rintro e u1 ⟨rfl, l1⟩
              replace b1 := b1.keep l1
              replace lw := Later.trans_ lw l1
              refine hK.out _ _ trivial (fun hHeld => ?_)
              clear hK K'
              try simp only [Act.put, List.setIfInBounds_toArray, List.set_cons_zero, List.set_cons_succ]
              refine wpAnyH_ready (rs := [0]) (by kernel_rfl) (by simp) (AllReadyH.cons (o := ⟨some 131, .load 26 (.tmp 1), _, _, _, none⟩) rfl (fun K' hK => ?_) AllReadyH.nil)
              refine wp_load_blk 26 _ rfl w1.heap.size 26 s6.cells _ rfl b1 Try.underlying26 rfl (ctl_sz _) ?_
              refine hK.out _ _ trivial (fun hHeld => ?_)
              clear hK K'
              try simp only [Act.put, List.setIfInBounds_toArray, List.set_cons_zero, List.set_cons_succ]
              refine wpAnyH_ready (rs := [2]) (by kernel_rfl) (by simp) (AllReadyH.cons (o := ⟨some 133, .call { callee := .value (.func 12), args := #[.tmp 131, .const (.int .i64 0), .tmp 132], argTypes := #[26, 3, 28] }, _, _, _, none⟩) rfl (fun K' hK => ?_) AllReadyH.nil)
              go_simp
              (with_reducible refine (p_7 _).mono ?_)
              rintro e u1 ⟨rfl, l1⟩
              replace b1 := b1.keep l1
              replace lw := Later.trans_ lw l1
              refine hK.out _ _ trivial (fun hHeld => ?_)
              clear hK K'
              try simp only [Act.put, List.setIfInBounds_toArray, List.set_cons_zero, List.set_cons_succ]
              refine wpAnyH_take (i := 3) (oi := ⟨some 130, .move (.tmp 133), _, _, _, none⟩) (v := (.tuple #[.agg s7.cells.toArray, .int .u32 0, .int .i64 0])) rfl (by kernel_rfl) (by kernel_rfl) (by kernel_rfl) (fun _ _ _ h => h) (Or.inl ⟨by rfl, fun _ _ => rfl⟩) hHeld ?_
              simp only [Act.put, List.setIfInBounds_toArray, List.set_cons_zero, List.set_cons_succ]
              refine wpAnyH_take (i := 4) (oi := ⟨some 134, .extract (.tmp 130) 0, _, _, _, none⟩) (v := .agg s7.cells.toArray) rfl (by kernel_rfl) (by kernel_rfl) (by kernel_rfl) (fun _ _ _ h => h) (Or.inl ⟨by rfl, fun w _ => by go_simp⟩) hHeld ?_
              simp only [Act.put, List.setIfInBounds_toArray, List.set_cons_zero, List.set_cons_succ]
              refine wpAnyH_take (i := 5) (oi := ⟨some 135, .extract (.tmp 130) 1, _, _, _, none⟩) (v := .int .u32 0) rfl (by kernel_rfl) (by kernel_rfl) (by kernel_rfl) (fun _ _ _ h => h) (Or.inl ⟨by rfl, fun w _ => by go_simp⟩) hHeld ?_
              simp only [Act.put, List.setIfInBounds_toArray, List.set_cons_zero, List.set_cons_succ]
              refine wpAnyH_take (i := 6) (oi := ⟨some 136, .extract (.tmp 130) 2, _, _, _, none⟩) (v := .int .i64 0) rfl (by kernel_rfl) (by kernel_rfl) (by kernel_rfl) (fun _ _ _ h => h) (Or.inl ⟨by rfl, fun w _ => by go_simp⟩) hHeld ?_
              simp only [Act.put, List.setIfInBounds_toArray, List.set_cons_zero, List.set_cons_succ]
              refine wpAnyH_ready (rs := [7]) (by kernel_rfl) (by simp) (AllReadyH.cons (o := ⟨none, .store 26 (.tmp 1) (.tmp 134), _, _, _, none⟩) rfl (fun K' hK => ?_) AllReadyH.nil)
              refine wp_store_blk 26 _ _ rfl w1.heap.size 26 s6.cells s7.cells rfl rfl b1 (ctl_sz _) rfl (ctl_one _) ?_
              intro wq bq oq
              clear b1
              have b1 := bq
              clear bq
              replace lw := Below.only lw oq hlt
              refine hK.out _ _ trivial (fun hHeld => ?_)
              clear hK K'
              try simp only [Act.put]
              refine wpAnyH_take (i := 8) (oi := ⟨some 18, .assign (.tmp 135), _, _, _, none⟩) (v := .int .u32 0) rfl (by kernel_rfl) (by kernel_rfl) (by kernel_rfl) (fun _ _ _ h => h) (Or.inl ⟨by rfl, fun _ _ => rfl⟩) hHeld ?_
              simp only [Act.put, List.setIfInBounds_toArray, List.set_cons_zero, List.set_cons_succ]
              refine wpAnyH_take (i := 9) (oi := ⟨some 19, .assign (.tmp 136), _, _, _, none⟩) (v := .int .i64 0) rfl (by kernel_rfl) (by kernel_rfl) (by kernel_rfl) (fun _ _ _ h => h) (Or.inl ⟨by rfl, fun _ _ => rfl⟩) hHeld ?_
              simp only [Act.put, List.setIfInBounds_toArray, List.set_cons_zero, List.set_cons_succ]
              refine wpAnyH_done (by kernel_rfl) ?_ _
              clear hHeld
              go_wp2
              go_meet
              exact ⟨rfl, rfl, b1, lw⟩
          case rest =>
            clear b1 lw
            obtain ⟨rfl, rfl, b1, lw⟩ := hcut
            go_upto_region 18 with (first
              | ((with_reducible refine wpList_load_blk (o := ⟨some 138, .load 26 (.tmp 1), _, _, _, none⟩) rfl _ _ rfl w1.heap.size 26 s7.cells _ ?_ ?_ Try.underlying26 rfl (ctl_sz _) ?_); rfl; exact b1)
              | (go_at_call 12; (with_reducible refine (p_a _).mono ?_); rintro e wp6 ⟨rfl, lp⟩; replace b1 := b1.keep lp; replace lw := Later.trans_ lw lp)
              | ((with_reducible refine wpList_store_abs (o := ⟨none, .store 26 (.tmp 20) (.tmp 141), _, _, _, none⟩) rfl _ _ _ rfl wp6.heap.size 26 zK.cells s7.cells ?_ ?_ ?_ ?_ ?_ ?_ ?_); rfl; rfl; exact (Blk.new _ _ _ _ rfl); exact ctl_sz _; rfl; exact ctl_one _; intro wq bq oq; replace b1 := (b1.alloc (.cells zK.cells.toArray 26)).only oq (Nat.ne_of_lt b1.lt); replace lw := Below.only (lw.alloc lw.size (.cells zK.cells.toArray 26)) oq lw.size; clear bq oq))
            go_cut [25] (fun q25 wx => q25 = .int .i64 5 ∧ Blk wx w1.heap.size 26 s7.cells ∧ Later w wx)
            case first =>
              replace b1 := b1.drew
              replace lw := lw.drew
              refine wp_region_held_drew (S := fun w' => w'.rangeAt w1.heap.size 0 s7.cells) (by kernel_rfl) (show World.rangeAt _ w1.heap.size 0 s7.cells from b1.range 0 14) (fun hHeld => ?_)
              refine wpAnyH_take (i := 0) (oi := ⟨some 145, .load 26 (.tmp 1), _, _, _, none⟩) (v := .agg s7.cells.toArray) rfl (by kernel_rfl) (by kernel_rfl) (by kernel_rfl) (fun _ _ _ h => h) (yieldsIf_load_mid (by rfl) _ _ rfl _ _ rfl s7.cells _ (fun w h => h) Try.underlying26 rfl (ctl_sz _)) hHeld ?_
              simp only [Act.put, List.setIfInBounds_toArray, List.set_cons_zero, List.set_cons_succ]
              refine wpAnyH_ready (rs := [1, 7]) (by kernel_rfl) (by simp) (AllReadyH.cons (o := ⟨some 146, .call { callee := .value (.func 23), args := #[.const (.int .i64 1), .const (.int .u32 1)], argTypes := #[3, 22] }, _, _, _, none⟩) rfl (fun K' hK => ?_) (AllReadyH.cons (o := ⟨some 23, .alloc 26, _, _, _, none⟩) rfl (fun K' hK => ?_) AllReadyH.nil))
              · go_simp
                (with_reducible refine (out_any 1 1 _).mono ?_)
                rintro e u1 ⟨rfl, l1⟩
                replace b1 := b1.keep l1
                replace lw := Later.trans_ lw l1
                try replace b2 := b2.keep l1
                refine hK.out _ _ (show World.rangeAt _ w1.heap.size 0 s7.cells from b1.range 0 14) (fun hHeld => ?_)
                clear hK K'
                try simp only [Act.put, List.setIfInBounds_toArray, List.set_cons_zero, List.set_cons_succ]
                refine wpAnyH_ready (rs := [2, 7]) (by kernel_rfl) (by simp) (AllReadyH.cons (o := ⟨some 147, .call { callee := .value (.func 12), args := #[.tmp 145, .const (.int .i64 0), .tmp 146], argTypes := #[26, 3, 28] }, _, _, _, none⟩) rfl (fun K' hK => ?_) (AllReadyH.cons (o := ⟨some 23, .alloc 26, _, _, _, none⟩) rfl (fun K' hK => ?_) AllReadyH.nil))
                · go_simp
                  (with_reducible refine (p_b _).mono ?_)
                  rintro e u2 ⟨rfl, l1⟩
                  replace b1 := b1.keep l1
                  replace lw := Later.trans_ lw l1
                  try replace b2 := b2.keep l1
                  refine hK.out _ _ (show World.rangeAt _ w1.heap.size 0 s7.cells from b1.range 0 14) (fun hHeld => ?_)
                  clear hK K'
                  try simp only [Act.put, List.setIfInBounds_toArray, List.set_cons_zero, List.set_cons_succ]
                  refine wpAnyH_take (i := 3) (oi := ⟨some 144, .move (.tmp 147), _, _, _, none⟩) (v := (.tuple #[.agg s7.cells.toArray, .int .u32 0, .int .i64 5])) rfl (by kernel_rfl) (by kernel_rfl) (by kernel_rfl) (fun _ _ _ h => h) (Or.inl ⟨by rfl, fun _ _ => rfl⟩) hHeld ?_
                  simp only [Act.put, List.setIfInBounds_toArray, List.set_cons_zero, List.set_cons_succ]
                  refine wpAnyH_take (i := 4) (oi := ⟨some 148, .extract (.tmp 144) 0, _, _, _, none⟩) (v := .agg s7.cells.toArray) rfl (by kernel_rfl) (by kernel_rfl) (by kernel_rfl) (fun _ _ _ h => h) (Or.inl ⟨by rfl, fun w _ => by go_simp⟩) hHeld ?_
                  simp only [Act.put, List.setIfInBounds_toArray, List.set_cons_zero, List.set_cons_succ]
                  refine wpAnyH_take (i := 5) (oi := ⟨some 149, .extract (.tmp 144) 1, _, _, _, none⟩) (v := .int .u32 0) rfl (by kernel_rfl) (by kernel_rfl) (by kernel_rfl) (fun _ _ _ h => h) (Or.inl ⟨by rfl, fun w _ => by go_simp⟩) hHeld ?_
                  simp only [Act.put, List.setIfInBounds_toArray, List.set_cons_zero, List.set_cons_succ]
                  refine wpAnyH_take (i := 6) (oi := ⟨some 150, .extract (.tmp 144) 2, _, _, _, none⟩) (v := .int .i64 5) rfl (by kernel_rfl) (by kernel_rfl) (by kernel_rfl) (fun _ _ _ h => h) (Or.inl ⟨by rfl, fun w _ => by go_simp⟩) hHeld ?_
                  simp only [Act.put, List.setIfInBounds_toArray, List.set_cons_zero, List.set_cons_succ]
                  refine wpAnyH_ready (rs := [7]) (by kernel_rfl) (by simp) (AllReadyH.cons (o := ⟨some 23, .alloc 26, _, _, _, none⟩) rfl (fun K' hK => ?_) AllReadyH.nil)
                  go_simp
                  have n2 := Nat.ne_of_lt b1.lt
                  have m2 := lw.size
                  have b2 := Blk.new u2 26 zK.cells.toArray zK.cells rfl
                  replace b1 := b1.alloc (.cells zK.cells.toArray 26)
                  replace lw := lw.alloc m2 (.cells zK.cells.toArray 26)
                  refine hK.out _ _ (show World.rangeAt _ w1.heap.size 0 s7.cells from b1.range 0 14) (fun hHeld => ?_)
                  clear hK K'
                  try simp only [Act.put, List.setIfInBounds_toArray, List.set_cons_zero, List.set_cons_succ]
                  refine wpAnyH_ready (rs := [8]) (by kernel_rfl) (by simp) (AllReadyH.cons (o := ⟨none, .store 26 (.tmp 23) (.tmp 148), _, _, _, none⟩) rfl (fun K' hK => ?_) AllReadyH.nil)
                  refine wp_store_blk 26 _ _ rfl u2.heap.size 26 zK.cells s7.cells rfl rfl b2 (ctl_sz _) rfl (ctl_one _) ?_
                  intro wq2 bq oq
                  replace b1 := b1.only oq n2
                  replace lw := Below.only lw oq m2
                  clear bq oq b2
                  refine hK.out _ _ (show World.rangeAt _ w1.heap.size 0 s7.cells from b1.range 0 14) (fun hHeld => ?_)
                  clear hK K'
                  try simp only [Act.put]
                  refine wpAnyH_take (i := 9) (oi := ⟨some 24, .assign (.tmp 149), _, _, _, none⟩) (v := .int .u32 0) rfl (by kernel_rfl) (by kernel_rfl) (by kernel_rfl) (fun _ _ _ h => h) (Or.inl ⟨by rfl, fun _ _ => rfl⟩) hHeld ?_
                  simp only [Act.put, List.setIfInBounds_toArray, List.set_cons_zero, List.set_cons_succ]
                  refine wpAnyH_take (i := 10) (oi := ⟨some 25, .assign (.tmp 150), _, _, _, none⟩) (v := .int .i64 5) rfl (by kernel_rfl) (by kernel_rfl) (by kernel_rfl) (fun _ _ _ h => h) (Or.inl ⟨by rfl, fun _ _ => rfl⟩) hHeld ?_
                  simp only [Act.put, List.setIfInBounds_toArray, List.set_cons_zero, List.set_cons_succ]
                  refine wpAnyH_done (by kernel_rfl) ?_ _
                  clear hHeld
                  go_wp2
                  go_meet
                  exact ⟨rfl, b1, lw⟩
                · go_simp
                  have n2 := Nat.ne_of_lt b1.lt
                  have m2 := lw.size
                  have b2 := Blk.new u1 26 zK.cells.toArray zK.cells rfl
                  replace b1 := b1.alloc (.cells zK.cells.toArray 26)
                  replace lw := lw.alloc m2 (.cells zK.cells.toArray 26)
                  refine hK.out _ _ (show World.rangeAt _ w1.heap.size 0 s7.cells from b1.range 0 14) (fun hHeld => ?_)
                  clear hK K'
                  try simp only [Act.put, List.setIfInBounds_toArray, List.set_cons_zero, List.set_cons_succ]
                  refine wpAnyH_ready (rs := [2]) (by kernel_rfl) (by simp) (AllReadyH.cons (o := ⟨some 147, .call { callee := .value (.func 12), args := #[.tmp 145, .const (.int .i64 0), .tmp 146], argTypes := #[26, 3, 28] }, _, _, _, none⟩) rfl (fun K' hK => ?_) AllReadyH.nil)
                  go_simp
                  (with_reducible refine (p_b _).mono ?_)
                  rintro e u2 ⟨rfl, l1⟩
                  replace b1 := b1.keep l1
                  replace lw := Later.trans_ lw l1
                  try replace b2 := b2.keep l1
                  refine hK.out _ _ (show World.rangeAt _ w1.heap.size 0 s7.cells from b1.range 0 14) (fun hHeld => ?_)
                  clear hK K'
                  try simp only [Act.put, List.setIfInBounds_toArray, List.set_cons_zero, List.set_cons_succ]
                  refine wpAnyH_take (i := 3) (oi := ⟨some 144, .move (.tmp 147), _, _, _, none⟩) (v := (.tuple #[.agg s7.cells.toArray, .int .u32 0, .int .i64 5])) rfl (by kernel_rfl) (by kernel_rfl) (by kernel_rfl) (fun _ _ _ h => h) (Or.inl ⟨by rfl, fun _ _ => rfl⟩) hHeld ?_
                  simp only [Act.put, List.setIfInBounds_toArray, List.set_cons_zero, List.set_cons_succ]
                  refine wpAnyH_take (i := 4) (oi := ⟨some 148, .extract (.tmp 144) 0, _, _, _, none⟩) (v := .agg s7.cells.toArray) rfl (by kernel_rfl) (by kernel_rfl) (by kernel_rfl) (fun _ _ _ h => h) (Or.inl ⟨by rfl, fun w _ => by go_simp⟩) hHeld ?_
                  simp only [Act.put, List.setIfInBounds_toArray, List.set_cons_zero, List.set_cons_succ]
                  refine wpAnyH_take (i := 5) (oi := ⟨some 149, .extract (.tmp 144) 1, _, _, _, none⟩) (v := .int .u32 0) rfl (by kernel_rfl) (by kernel_rfl) (by kernel_rfl) (fun _ _ _ h => h) (Or.inl ⟨by rfl, fun w _ => by go_simp⟩) hHeld ?_
                  simp only [Act.put, List.setIfInBounds_toArray, List.set_cons_zero, List.set_cons_succ]
                  refine wpAnyH_take (i := 6) (oi := ⟨some 150, .extract (.tmp 144) 2, _, _, _, none⟩) (v := .int .i64 5) rfl (by kernel_rfl) (by kernel_rfl) (by kernel_rfl) (fun _ _ _ h => h) (Or.inl ⟨by rfl, fun w _ => by go_simp⟩) hHeld ?_
                  simp only [Act.put, List.setIfInBounds_toArray, List.set_cons_zero, List.set_cons_succ]
                  refine wpAnyH_ready (rs := [8]) (by kernel_rfl) (by simp) (AllReadyH.cons (o := ⟨none, .store 26 (.tmp 23) (.tmp 148), _, _, _, none⟩) rfl (fun K' hK => ?_) AllReadyH.nil)
                  refine wp_store_blk 26 _ _ rfl u1.heap.size 26 zK.cells s7.cells rfl rfl b2 (ctl_sz _) rfl (ctl_one _) ?_
                  intro wq2 bq oq
                  replace b1 := b1.only oq n2
                  replace lw := Below.only lw oq m2
                  clear bq oq b2
                  refine hK.out _ _ (show World.rangeAt _ w1.heap.size 0 s7.cells from b1.range 0 14) (fun hHeld => ?_)
                  clear hK K'
                  try simp only [Act.put]
                  refine wpAnyH_take (i := 9) (oi := ⟨some 24, .assign (.tmp 149), _, _, _, none⟩) (v := .int .u32 0) rfl (by kernel_rfl) (by kernel_rfl) (by kernel_rfl) (fun _ _ _ h => h) (Or.inl ⟨by rfl, fun _ _ => rfl⟩) hHeld ?_
                  simp only [Act.put, List.setIfInBounds_toArray, List.set_cons_zero, List.set_cons_succ]
                  refine wpAnyH_take (i := 10) (oi := ⟨some 25, .assign (.tmp 150), _, _, _, none⟩) (v := .int .i64 5) rfl (by kernel_rfl) (by kernel_rfl) (by kernel_rfl) (fun _ _ _ h => h) (Or.inl ⟨by rfl, fun _ _ => rfl⟩) hHeld ?_
                  simp only [Act.put, List.setIfInBounds_toArray, List.set_cons_zero, List.set_cons_succ]
                  refine wpAnyH_done (by kernel_rfl) ?_ _
                  clear hHeld
                  go_wp2
                  go_meet
                  exact ⟨rfl, b1, lw⟩
              · go_simp
                have n2 := Nat.ne_of_lt b1.lt
                have m2 := lw.size
                have b2 := Blk.new wq.drew 26 zK.cells.toArray zK.cells rfl
                replace b1 := b1.alloc (.cells zK.cells.toArray 26)
                replace lw := lw.alloc m2 (.cells zK.cells.toArray 26)
                refine hK.out _ _ (show World.rangeAt _ w1.heap.size 0 s7.cells from b1.range 0 14) (fun hHeld => ?_)
                clear hK K'
                try simp only [Act.put, List.setIfInBounds_toArray, List.set_cons_zero, List.set_cons_succ]
                refine wpAnyH_ready (rs := [1]) (by kernel_rfl) (by simp) (AllReadyH.cons (o := ⟨some 146, .call { callee := .value (.func 23), args := #[.const (.int .i64 1), .const (.int .u32 1)], argTypes := #[3, 22] }, _, _, _, none⟩) rfl (fun K' hK => ?_) AllReadyH.nil)
                go_simp
                (with_reducible refine (out_any 1 1 _).mono ?_)
                rintro e u1 ⟨rfl, l1⟩
                replace b1 := b1.keep l1
                replace lw := Later.trans_ lw l1
                try replace b2 := b2.keep l1
                refine hK.out _ _ (show World.rangeAt _ w1.heap.size 0 s7.cells from b1.range 0 14) (fun hHeld => ?_)
                clear hK K'
                try simp only [Act.put, List.setIfInBounds_toArray, List.set_cons_zero, List.set_cons_succ]
                refine wpAnyH_ready (rs := [2]) (by kernel_rfl) (by simp) (AllReadyH.cons (o := ⟨some 147, .call { callee := .value (.func 12), args := #[.tmp 145, .const (.int .i64 0), .tmp 146], argTypes := #[26, 3, 28] }, _, _, _, none⟩) rfl (fun K' hK => ?_) AllReadyH.nil)
                go_simp
                (with_reducible refine (p_b _).mono ?_)
                rintro e u2 ⟨rfl, l1⟩
                replace b1 := b1.keep l1
                replace lw := Later.trans_ lw l1
                try replace b2 := b2.keep l1
                refine hK.out _ _ (show World.rangeAt _ w1.heap.size 0 s7.cells from b1.range 0 14) (fun hHeld => ?_)
                clear hK K'
                try simp only [Act.put, List.setIfInBounds_toArray, List.set_cons_zero, List.set_cons_succ]
                refine wpAnyH_take (i := 3) (oi := ⟨some 144, .move (.tmp 147), _, _, _, none⟩) (v := (.tuple #[.agg s7.cells.toArray, .int .u32 0, .int .i64 5])) rfl (by kernel_rfl) (by kernel_rfl) (by kernel_rfl) (fun _ _ _ h => h) (Or.inl ⟨by rfl, fun _ _ => rfl⟩) hHeld ?_
                simp only [Act.put, List.setIfInBounds_toArray, List.set_cons_zero, List.set_cons_succ]
                refine wpAnyH_take (i := 4) (oi := ⟨some 148, .extract (.tmp 144) 0, _, _, _, none⟩) (v := .agg s7.cells.toArray) rfl (by kernel_rfl) (by kernel_rfl) (by kernel_rfl) (fun _ _ _ h => h) (Or.inl ⟨by rfl, fun w _ => by go_simp⟩) hHeld ?_
                simp only [Act.put, List.setIfInBounds_toArray, List.set_cons_zero, List.set_cons_succ]
                refine wpAnyH_take (i := 5) (oi := ⟨some 149, .extract (.tmp 144) 1, _, _, _, none⟩) (v := .int .u32 0) rfl (by kernel_rfl) (by kernel_rfl) (by kernel_rfl) (fun _ _ _ h => h) (Or.inl ⟨by rfl, fun w _ => by go_simp⟩) hHeld ?_
                simp only [Act.put, List.setIfInBounds_toArray, List.set_cons_zero, List.set_cons_succ]
                refine wpAnyH_take (i := 6) (oi := ⟨some 150, .extract (.tmp 144) 2, _, _, _, none⟩) (v := .int .i64 5) rfl (by kernel_rfl) (by kernel_rfl) (by kernel_rfl) (fun _ _ _ h => h) (Or.inl ⟨by rfl, fun w _ => by go_simp⟩) hHeld ?_
                simp only [Act.put, List.setIfInBounds_toArray, List.set_cons_zero, List.set_cons_succ]
                refine wpAnyH_ready (rs := [8]) (by kernel_rfl) (by simp) (AllReadyH.cons (o := ⟨none, .store 26 (.tmp 23) (.tmp 148), _, _, _, none⟩) rfl (fun K' hK => ?_) AllReadyH.nil)
                refine wp_store_blk 26 _ _ rfl wq.heap.size 26 zK.cells s7.cells rfl rfl b2 (ctl_sz _) rfl (ctl_one _) ?_
                intro wq2 bq oq
                replace b1 := b1.only oq n2
                replace lw := Below.only lw oq m2
                clear bq oq b2
                refine hK.out _ _ (show World.rangeAt _ w1.heap.size 0 s7.cells from b1.range 0 14) (fun hHeld => ?_)
                clear hK K'
                try simp only [Act.put]
                refine wpAnyH_take (i := 9) (oi := ⟨some 24, .assign (.tmp 149), _, _, _, none⟩) (v := .int .u32 0) rfl (by kernel_rfl) (by kernel_rfl) (by kernel_rfl) (fun _ _ _ h => h) (Or.inl ⟨by rfl, fun _ _ => rfl⟩) hHeld ?_
                simp only [Act.put, List.setIfInBounds_toArray, List.set_cons_zero, List.set_cons_succ]
                refine wpAnyH_take (i := 10) (oi := ⟨some 25, .assign (.tmp 150), _, _, _, none⟩) (v := .int .i64 5) rfl (by kernel_rfl) (by kernel_rfl) (by kernel_rfl) (fun _ _ _ h => h) (Or.inl ⟨by rfl, fun _ _ => rfl⟩) hHeld ?_
                simp only [Act.put, List.setIfInBounds_toArray, List.set_cons_zero, List.set_cons_succ]
                refine wpAnyH_done (by kernel_rfl) ?_ _
                clear hHeld
                go_wp2
                go_meet
                exact ⟨rfl, b1, lw⟩
            case rest =>
              clear b1 lw
              obtain ⟨rfl, b1, lw⟩ := hcut
              go_wp2_with (first
                | ((with_reducible refine wpList_load_blk (o := ⟨some 152, .load 26 (.tmp 1), _, _, _, none⟩) rfl _ _ rfl w1.heap.size 26 s7.cells _ ?_ ?_ Try.underlying26 rfl (ctl_sz _) ?_); rfl; exact b1)
                | (go_at_call 12; (with_reducible refine (p_c _).mono ?_); rintro e wc ⟨rfl, lc⟩; replace b1 := b1.keep lc; replace lw := Later.trans_ lw lc)
                | ((with_reducible refine wpList_store_abs (o := ⟨none, .store 26 (.tmp 26) (.tmp 155), _, _, _, none⟩) rfl _ _ _ rfl wc.heap.size 26 zK.cells s7.cells ?_ ?_ ?_ ?_ ?_ ?_ ?_); rfl; rfl; exact (Blk.new _ _ _ _ rfl); exact ctl_sz _; rfl; exact ctl_one _; intro wq bq oq; replace b1 := (b1.alloc (.cells zK.cells.toArray 26)).only oq (Nat.ne_of_lt b1.lt); replace lw := Below.only (lw.alloc lw.size (.cells zK.cells.toArray 26)) oq lw.size; clear bq oq)
                | ((with_reducible refine wpList_load_g (o := ⟨some 161, .load 26 (.tmp 1), _, _, _, _⟩) _ _ rfl w1.heap.size 26 s7.cells _ ?_ ?_ ?_ Try.underlying26 ?_ (ctl_sz _) ?_); rfl; rfl; exact b1; rfl)
                | (go_at_call 16; (with_reducible refine (q_70 _).mono ?_); rintro e wd ⟨rfl, ld⟩; replace b1 := b1.keep ld; replace lw := Later.trans_ lw ld))
              go_ret
              exact ⟨rfl, lw⟩
end Go.Proofs.Ytkpigonlnabmdab
