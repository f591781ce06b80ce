/-
  A RING: hasWrongFlags, isInside, check.
-/
import Derived.Test.YtffgbbfcbobecaaRgC
namespace Go.Proofs.Ytffgbbfcbobecaa
open Go.RowKit Go.ChangeShapes Go.WideShapes Go.ChangeAt

/-- Flags that are wrong in themselves. -/
def hwF (f : Int) : Bool := badF f || (!moreF f && decide (nxtF f ≠ 0))
set_option maxRecDepth 100000 in
set_option maxHeartbeats 1000000 in
theorem hasWrong_any (p : Rg.Pt) (f s : Int) (w : World) (hf : Tm.isE f) : Calls Try.prog 81 #[.agg (dcC p f s).toArray] w fun e w' => e = .returned (.bool (hwF f)) ∧ Later w w' := by
  have b1 : Blk _ w.heap.size 73 (dcC p f s) := (Blk.new' w w.heap.size 73 (dcC p f s).toArray (dcC p f s) (by simp) rfl)
  have lw := (later1 w (.cells (dcC p f s).toArray 73))
  obtain ⟨u0, hu⟩ : ∃ u, (w.alloc (.cells (dcC p f s).toArray 73)) = u := ⟨_, rfl⟩
  rw [hu] at b1 lw
  have KN := Lib.hid fun w' => next_any p f s w' hf
  have a1 := andn_flags hf
  obtain ⟨z, hz⟩ : ∃ z, z = nxtF f := ⟨_, rfl⟩
  obtain ⟨mo, hmo⟩ : ∃ z, z = moreF f := ⟨_, rfl⟩
  obtain ⟨bd, hbd⟩ : ∃ z, z = badF f := ⟨_, rfl⟩
  unfold hwF
  rw [← hz, ← hmo] at KN
  rw [← hbd] at a1
  rw [← hz, ← hmo, ← hbd]
  clear hz hmo hbd hf
  cases bd
  · cases mo
    · by_cases h0 : z = 0
      · subst h0
        go_enter Try.func81, Try.ntmps81
        go_upto_region 1 with fail
        have hu2 : (w.alloc (.cells #[.int .i64 p.1, .int .i64 p.2.1, .int .i64 p.2.2.1, .bool p.2.2.2, .int .u32 f, .int .u32 s] 73)) = u0 := hu
        try rw [hu2]
        clear hu hu2
        have e0 := b1.cell (j := 4) (v := .int .u32 f) rfl
        go_wp2_with (first
          | ((with_reducible refine wpList_load_blk (o := ⟨some 6, .load 73 (.tmp 1), _, _, _, none⟩) rfl _ _ rfl w.heap.size 73 (dcC p f s) _ ?_ ?_ Try.underlying73 rfl (dc_sz _ _ _) ?_); rfl; exact b1)
          | (go_at_call 65; clear e0; (with_reducible refine (KN.out _).mono ?_); rintro e w1 ⟨rfl, l1⟩; replace b1 := b1.keep l1; replace lw := Later.trans_ lw l1; have e0 := b1.cell (j := 4) (v := .int .u32 f) rfl))
        go_ret
        exact ⟨rfl, lw⟩
      · have h1 : (z != 0) = true := bne_iff_ne.2 h0
        rw [show decide (z ≠ 0) = true from decide_eq_true h0]
        go_enter Try.func81, Try.ntmps81
        go_upto_region 1 with fail
        have hu2 : (w.alloc (.cells #[.int .i64 p.1, .int .i64 p.2.1, .int .i64 p.2.2.1, .bool p.2.2.2, .int .u32 f, .int .u32 s] 73)) = u0 := hu
        try rw [hu2]
        clear hu hu2
        have e0 := b1.cell (j := 4) (v := .int .u32 f) rfl
        go_wp2_with (first
          | ((with_reducible refine wpList_load_blk (o := ⟨some 6, .load 73 (.tmp 1), _, _, _, none⟩) rfl _ _ rfl w.heap.size 73 (dcC p f s) _ ?_ ?_ Try.underlying73 rfl (dc_sz _ _ _) ?_); rfl; exact b1)
          | (go_at_call 65; clear e0; (with_reducible refine (KN.out _).mono ?_); rintro e w1 ⟨rfl, l1⟩; replace b1 := b1.keep l1; replace lw := Later.trans_ lw l1; have e0 := b1.cell (j := 4) (v := .int .u32 f) rfl))
        go_ret
        exact ⟨rfl, lw⟩
    · rw [show (false || (!true && decide (z ≠ 0))) = false from rfl]
      go_enter Try.func81, Try.ntmps81
      go_upto_region 1 with fail
      have hu2 : (w.alloc (.cells #[.int .i64 p.1, .int .i64 p.2.1, .int .i64 p.2.2.1, .bool p.2.2.2, .int .u32 f, .int .u32 s] 73)) = u0 := hu
      try rw [hu2]
      clear hu hu2
      have e0 := b1.cell (j := 4) (v := .int .u32 f) rfl
      go_wp2_with (first
        | ((with_reducible refine wpList_load_blk (o := ⟨some 6, .load 73 (.tmp 1), _, _, _, none⟩) rfl _ _ rfl w.heap.size 73 (dcC p f s) _ ?_ ?_ Try.underlying73 rfl (dc_sz _ _ _) ?_); rfl; exact b1)
        | (go_at_call 65; clear e0; (with_reducible refine (KN.out _).mono ?_); rintro e w1 ⟨rfl, l1⟩; replace b1 := b1.keep l1; replace lw := Later.trans_ lw l1; have e0 := b1.cell (j := 4) (v := .int .u32 f) rfl))
      go_ret
      exact ⟨rfl, lw⟩
  · rw [show (true || (!mo && decide (z ≠ 0))) = true from rfl]
    go_enter Try.func81, Try.ntmps81
    go_upto_region 1 with fail
    have hu2 : (w.alloc (.cells #[.int .i64 p.1, .int .i64 p.2.1, .int .i64 p.2.2.1, .bool p.2.2.2, .int .u32 f, .int .u32 s] 73)) = u0 := hu
    try rw [hu2]
    clear hu hu2
    have e0 := b1.cell (j := 4) (v := .int .u32 f) rfl
    go_wp2_with (first
      | ((with_reducible refine wpList_load_blk (o := ⟨some 6, .load 73 (.tmp 1), _, _, _, none⟩) rfl _ _ rfl w.heap.size 73 (dcC p f s) _ ?_ ?_ Try.underlying73 rfl (dc_sz _ _ _) ?_); rfl; exact b1)
      | (go_at_call 65; clear e0; (with_reducible refine (KN.out _).mono ?_); rintro e w1 ⟨rfl, l1⟩; replace b1 := b1.keep l1; replace lw := Later.trans_ lw l1; have e0 := b1.cell (j := 4) (v := .int .u32 f) rfl))
    go_ret
    exact ⟨rfl, lw⟩
/-- Whether a part lies in a memory of L bytes. -/
def insP (L : Nat) (p : Rg.Pt) : Bool := decide (1 ≤ p.2.2.1 ∧ p.2.2.1 ≤ 512 ∧ p.2.1 + p.2.2.1 ≤ L)
set_option maxRecDepth 100000 in
set_option maxHeartbeats 1000000 in
theorem isInside_any (p : Rg.Pt) (f s : Int) (A : Option Addr) (n c : Nat) (w : World) (hn : n ≤ 64) (h0 : 0 ≤ p.2.1) (h1 : p.2.1 < 4294967296) (h2 : 0 ≤ p.2.2.1) (h3 : p.2.2.1 < 4294967296) : Calls Try.prog 80 #[.agg (dcC p f s).toArray, .agg #[.slice A n c]] w fun e w' => e = .returned (.bool (insP (n * 128) p)) ∧ Later w w' := by
  have KS := Lib.hid fun w' => size_any A n c w' hn
  have b2 : Blk _ w.heap.size 73 (dcC p f s) := ((Blk.new' w w.heap.size 73 (dcC p f s).toArray (dcC p f s) (by simp) rfl).alloc (.cells ([.slice A n c]).toArray 24))
  have b3 : Blk _ (w.heap.size + 1) 24 ([.slice A n c]) := (Blk.new' (w.alloc (.cells (dcC p f s).toArray 73)) (w.heap.size + 1) 24 ([.slice A n c]).toArray ([.slice A n c]) (by simp) rfl)
  have lw := ((later1 w (.cells (dcC p f s).toArray 73)).alloc (by simp; try omega) (.cells ([.slice A n c]).toArray 24))
  obtain ⟨u0, hu⟩ : ∃ u, ((w.alloc (.cells (dcC p f s).toArray 73)).alloc (.cells ([.slice A n c]).toArray 24)) = u := ⟨_, rfl⟩
  rw [hu] at b2 b3 lw
  by_cases q1 : 1 ≤ p.2.2.1
  · have d1 : decide (1 ≤ p.2.2.1) = true := decide_eq_true q1
    by_cases q2 : p.2.2.1 ≤ 512
    · have d2 : decide (p.2.2.1 ≤ 512) = true := decide_eq_true q2
      have a1 : IntKind.i64.wrap (p.2.1 + p.2.2.1) = p.2.1 + p.2.2.1 := by rw [IntKind.wrap_i64]; omega
      by_cases q3 : p.2.1 + p.2.2.1 ≤ ((n * 128 : Nat) : Int)
      · have d3 : decide (p.2.1 + p.2.2.1 ≤ (n : Int) * 128) = true := decide_eq_true (by omega)
        rw [show insP (n * 128) p = true from decide_eq_true ⟨q1, q2, q3⟩]
        clear q3
        go_enter Try.func80, Try.ntmps80
        go_upto_region 1 with fail
        have hu2 : ((w.alloc (.cells #[.int .i64 p.1, .int .i64 p.2.1, .int .i64 p.2.2.1, .bool p.2.2.2, .int .u32 f, .int .u32 s] 73)).alloc (.cells #[.slice A n c] 24)) = u0 := hu
        try rw [hu2]
        clear hu hu2
        replace b2 := b2.drew
        replace b3 := b3.drew
        replace lw := lw.drew
        refine wp_region_held_drew (S := fun w' => World.rangeAt w' w.heap.size 0 (dcC p f s) ∧ World.rangeAt w' (w.heap.size + 1) 0 [.slice A n c]) (by kernel_rfl) ⟨b2.range 0 6, b3.range 0 1⟩ (fun hHeld => ?_)
        refine wpAnyH_take (i := 0) (oi := ⟨some 5, .fieldAddr 73 (.tmp 2) 0, _, _, _, none⟩) (v := .pointer (some ⟨w.heap.size, 0, none⟩)) rfl (by kernel_rfl) (by kernel_rfl) (by kernel_rfl) (fun _ _ _ h => h) (Or.inl ⟨by rfl, fun w _ => by go_simp⟩) hHeld ?_
        simp only [Act.put, List.setIfInBounds_toArray, List.set_cons_zero, List.set_cons_succ]
        refine wpAnyH_take (i := 1) (oi := ⟨some 6, .fieldAddr 59 (.tmp 5) 2, _, _, _, none⟩) (v := .pointer (some ⟨w.heap.size, 2, none⟩)) rfl (by kernel_rfl) (by kernel_rfl) (by kernel_rfl) (fun _ _ _ h => h) (Or.inl ⟨by rfl, fun w _ => by go_simp⟩) hHeld ?_
        simp only [Act.put, List.setIfInBounds_toArray, List.set_cons_zero, List.set_cons_succ]
        refine wpAnyH_take (i := 2) (oi := ⟨some 7, .load 3 (.tmp 6), _, _, _, none⟩) (v := .int .i64 p.2.2.1) rfl (by kernel_rfl) (by kernel_rfl) (by kernel_rfl) (fun _ _ _ h => h) (Or.inl ⟨by rfl, fun wz hSw => by have e1 : wz.cell? ⟨w.heap.size, 2, none⟩ = some (.int .i64 p.2.2.1) := hSw.1 2 _ rfl; clear hSw; go_simp⟩) hHeld ?_
        simp only [Act.put, List.setIfInBounds_toArray, List.set_cons_zero, List.set_cons_succ]
        refine wpAnyH_take (i := 3) (oi := ⟨some 8, .binOp .leq 3 (.const (.int .i64 1)) (.tmp 7) 3, _, _, _, none⟩) (v := .bool true) rfl (by kernel_rfl) (by kernel_rfl) (by kernel_rfl) (fun _ _ _ h => h) (Or.inl ⟨by rfl, fun w _ => by go_simp⟩) hHeld ?_
        simp only [Act.put, List.setIfInBounds_toArray, List.set_cons_zero, List.set_cons_succ]
        refine wpAnyH_take (i := 4) (oi := ⟨some 9, .move (.tmp 8), _, _, _, none⟩) (v := .bool true) rfl (by kernel_rfl) (by kernel_rfl) (by kernel_rfl) (fun _ _ _ h => h) (Or.inl ⟨by rfl, fun _ _ => rfl⟩) hHeld ?_
        simp only [Act.put, List.setIfInBounds_toArray, List.set_cons_zero, List.set_cons_succ]
        refine wpAnyH_take (i := 5) (oi := ⟨some 10, .fieldAddr 73 (.tmp 2) 0, _, _, _, _⟩) (v := .pointer (some ⟨w.heap.size, 0, none⟩)) rfl (by kernel_rfl) (by kernel_rfl) (by kernel_rfl) (fun _ _ _ h => h) (Or.inl ⟨by rfl, fun w _ => by go_simp⟩) hHeld ?_
        simp only [Act.put, List.setIfInBounds_toArray, List.set_cons_zero, List.set_cons_succ]
        refine wpAnyH_take (i := 6) (oi := ⟨some 11, .fieldAddr 59 (.tmp 10) 2, _, _, _, _⟩) (v := .pointer (some ⟨w.heap.size, 2, none⟩)) rfl (by kernel_rfl) (by kernel_rfl) (by kernel_rfl) (fun _ _ _ h => h) (Or.inl ⟨by rfl, fun w _ => by go_simp⟩) hHeld ?_
        simp only [Act.put, List.setIfInBounds_toArray, List.set_cons_zero, List.set_cons_succ]
        refine wpAnyH_take (i := 7) (oi := ⟨some 12, .load 3 (.tmp 11), _, _, _, _⟩) (v := .int .i64 p.2.2.1) rfl (by kernel_rfl) (by kernel_rfl) (by kernel_rfl) (fun _ _ _ h => h) (Or.inl ⟨by rfl, fun wz hSw => by have e1 : wz.cell? ⟨w.heap.size, 2, none⟩ = some (.int .i64 p.2.2.1) := hSw.1 2 _ rfl; clear hSw; go_simp⟩) hHeld ?_
        simp only [Act.put, List.setIfInBounds_toArray, List.set_cons_zero, List.set_cons_succ]
        refine wpAnyH_take (i := 8) (oi := ⟨some 13, .binOp .leq 3 (.tmp 12) (.const (.int .i64 512)) 3, _, _, _, _⟩) (v := .bool true) rfl (by kernel_rfl) (by kernel_rfl) (by kernel_rfl) (fun _ _ _ h => h) (Or.inl ⟨by rfl, fun w _ => by go_simp⟩) hHeld ?_
        simp only [Act.put, List.setIfInBounds_toArray, List.set_cons_zero, List.set_cons_succ]
        refine wpAnyH_take (i := 9) (oi := ⟨some 14, .pick (.tmp 9) (.tmp 13) (.const (.bool false)), _, _, _, none⟩) (v := .bool true) rfl (by kernel_rfl) (by kernel_rfl) (by kernel_rfl) (fun _ _ _ h => h) (Or.inl ⟨by rfl, fun w _ => by go_simp⟩) hHeld ?_
        simp only [Act.put, List.setIfInBounds_toArray, List.set_cons_zero, List.set_cons_succ]
        refine wpAnyH_take (i := 10) (oi := ⟨some 15, .move (.tmp 14), _, _, _, none⟩) (v := .bool true) rfl (by kernel_rfl) (by kernel_rfl) (by kernel_rfl) (fun _ _ _ h => h) (Or.inl ⟨by rfl, fun _ _ => rfl⟩) hHeld ?_
        simp only [Act.put, List.setIfInBounds_toArray, List.set_cons_zero, List.set_cons_succ]
        refine wpAnyH_take (i := 11) (oi := ⟨some 16, .fieldAddr 73 (.tmp 2) 0, _, _, _, _⟩) (v := .pointer (some ⟨w.heap.size, 0, none⟩)) rfl (by kernel_rfl) (by kernel_rfl) (by kernel_rfl) (fun _ _ _ h => h) (Or.inl ⟨by rfl, fun w _ => by go_simp⟩) hHeld ?_
        simp only [Act.put, List.setIfInBounds_toArray, List.set_cons_zero, List.set_cons_succ]
        refine wpAnyH_take (i := 12) (oi := ⟨some 17, .fieldAddr 59 (.tmp 16) 1, _, _, _, _⟩) (v := .pointer (some ⟨w.heap.size, 1, none⟩)) rfl (by kernel_rfl) (by kernel_rfl) (by kernel_rfl) (fun _ _ _ h => h) (Or.inl ⟨by rfl, fun w _ => by go_simp⟩) hHeld ?_
        simp only [Act.put, List.setIfInBounds_toArray, List.set_cons_zero, List.set_cons_succ]
        refine wpAnyH_take (i := 13) (oi := ⟨some 18, .load 3 (.tmp 17), _, _, _, _⟩) (v := .int .i64 p.2.1) rfl (by kernel_rfl) (by kernel_rfl) (by kernel_rfl) (fun _ _ _ h => h) (Or.inl ⟨by rfl, fun wz hSw => by have e1 : wz.cell? ⟨w.heap.size, 1, none⟩ = some (.int .i64 p.2.1) := hSw.1 1 _ rfl; clear hSw; go_simp⟩) hHeld ?_
        simp only [Act.put, List.setIfInBounds_toArray, List.set_cons_zero, List.set_cons_succ]
        refine wpAnyH_take (i := 14) (oi := ⟨some 19, .fieldAddr 73 (.tmp 2) 0, _, _, _, _⟩) (v := .pointer (some ⟨w.heap.size, 0, none⟩)) rfl (by kernel_rfl) (by kernel_rfl) (by kernel_rfl) (fun _ _ _ h => h) (Or.inl ⟨by rfl, fun w _ => by go_simp⟩) hHeld ?_
        simp only [Act.put, List.setIfInBounds_toArray, List.set_cons_zero, List.set_cons_succ]
        refine wpAnyH_take (i := 15) (oi := ⟨some 20, .fieldAddr 59 (.tmp 19) 2, _, _, _, _⟩) (v := .pointer (some ⟨w.heap.size, 2, none⟩)) rfl (by kernel_rfl) (by kernel_rfl) (by kernel_rfl) (fun _ _ _ h => h) (Or.inl ⟨by rfl, fun w _ => by go_simp⟩) hHeld ?_
        simp only [Act.put, List.setIfInBounds_toArray, List.set_cons_zero, List.set_cons_succ]
        refine wpAnyH_take (i := 16) (oi := ⟨some 21, .load 3 (.tmp 20), _, _, _, _⟩) (v := .int .i64 p.2.2.1) rfl (by kernel_rfl) (by kernel_rfl) (by kernel_rfl) (fun _ _ _ h => h) (Or.inl ⟨by rfl, fun wz hSw => by have e1 : wz.cell? ⟨w.heap.size, 2, none⟩ = some (.int .i64 p.2.2.1) := hSw.1 2 _ rfl; clear hSw; go_simp⟩) hHeld ?_
        simp only [Act.put, List.setIfInBounds_toArray, List.set_cons_zero, List.set_cons_succ]
        refine wpAnyH_take (i := 17) (oi := ⟨some 22, .binOp .add 3 (.tmp 18) (.tmp 21) 3, _, _, _, _⟩) (v := .int .i64 (p.2.1 + p.2.2.1)) rfl (by kernel_rfl) (by kernel_rfl) (by kernel_rfl) (fun _ _ _ h => h) (Or.inl ⟨by rfl, fun w _ => by go_simp⟩) hHeld ?_
        simp only [Act.put, List.setIfInBounds_toArray, List.set_cons_zero, List.set_cons_succ]
        refine wpAnyH_take (i := 18) (oi := ⟨some 23, .load 24 (.tmp 3), _, _, _, _⟩) (v := .agg ([.slice A n c]).toArray) rfl (by kernel_rfl) (by kernel_rfl) (by kernel_rfl) (fun _ _ _ h => h) (yieldsIf_load_mid (by rfl) _ _ rfl (w.heap.size + 1) 0 rfl ([.slice A n c]) _ (fun wz hSw => hSw.2) Try.underlying24 rfl memS) hHeld ?_
        simp only [Act.put, List.setIfInBounds_toArray, List.set_cons_zero, List.set_cons_succ]
        refine wpAnyH_ready (rs := [19]) (by kernel_rfl) (by simp) (AllReadyH.cons (o := ⟨some 24, .call { callee := .value (.func 34), args := #[.tmp 23], argTypes := #[24] }, _, _, _, _⟩) rfl (fun K' hK => ?_) (AllReadyH.nil))
        go_simp
        (with_reducible refine (KS.out _).mono ?_)
        rintro e w1 ⟨rfl, l1⟩
        replace b2 := b2.keep l1
        replace b3 := b3.keep l1
        replace lw := Later.trans_ lw l1
        refine hK.out _ _ ⟨b2.range 0 6, b3.range 0 1⟩ (fun hHeld => ?_)
        clear hK K'
        try simp only [Act.put, List.setIfInBounds_toArray, List.set_cons_zero, List.set_cons_succ]
        refine wpAnyH_take (i := 20) (oi := ⟨some 25, .binOp .leq 3 (.tmp 22) (.tmp 24) 3, _, _, _, _⟩) (v := .bool true) rfl (by kernel_rfl) (by kernel_rfl) (by kernel_rfl) (fun _ _ _ h => h) (Or.inl ⟨by rfl, fun w _ => by go_simp⟩) hHeld ?_
        simp only [Act.put, List.setIfInBounds_toArray, List.set_cons_zero, List.set_cons_succ]
        refine wpAnyH_take (i := 21) (oi := ⟨some 26, .pick (.tmp 15) (.tmp 25) (.const (.bool false)), _, _, _, none⟩) (v := .bool true) rfl (by kernel_rfl) (by kernel_rfl) (by kernel_rfl) (fun _ _ _ h => h) (Or.inl ⟨by rfl, fun w _ => by go_simp⟩) hHeld ?_
        simp only [Act.put, List.setIfInBounds_toArray, List.set_cons_zero, List.set_cons_succ]
        refine wpAnyH_take (i := 22) (oi := ⟨some 4, .assign (.tmp 26), _, _, _, none⟩) (v := .bool true) rfl (by kernel_rfl) (by kernel_rfl) (by kernel_rfl) (fun _ _ _ h => h) (Or.inl ⟨by rfl, fun _ _ => rfl⟩) hHeld ?_
        simp only [Act.put, List.setIfInBounds_toArray, List.set_cons_zero, List.set_cons_succ]
        refine wpAnyH_done (by kernel_rfl) ?_ _
        clear hHeld
        go_wp2
        go_ret
        exact ⟨rfl, lw⟩
      · have d3 : decide (p.2.1 + p.2.2.1 ≤ (n : Int) * 128) = false := decide_eq_false (by omega)
        rw [show insP (n * 128) p = false from decide_eq_false (fun h => q3 h.2.2)]
        clear q3
        go_enter Try.func80, Try.ntmps80
        go_upto_region 1 with fail
        have hu2 : ((w.alloc (.cells #[.int .i64 p.1, .int .i64 p.2.1, .int .i64 p.2.2.1, .bool p.2.2.2, .int .u32 f, .int .u32 s] 73)).alloc (.cells #[.slice A n c] 24)) = u0 := hu
        try rw [hu2]
        clear hu hu2
        replace b2 := b2.drew
        replace b3 := b3.drew
        replace lw := lw.drew
        refine wp_region_held_drew (S := fun w' => World.rangeAt w' w.heap.size 0 (dcC p f s) ∧ World.rangeAt w' (w.heap.size + 1) 0 [.slice A n c]) (by kernel_rfl) ⟨b2.range 0 6, b3.range 0 1⟩ (fun hHeld => ?_)
        refine wpAnyH_take (i := 0) (oi := ⟨some 5, .fieldAddr 73 (.tmp 2) 0, _, _, _, none⟩) (v := .pointer (some ⟨w.heap.size, 0, none⟩)) rfl (by kernel_rfl) (by kernel_rfl) (by kernel_rfl) (fun _ _ _ h => h) (Or.inl ⟨by rfl, fun w _ => by go_simp⟩) hHeld ?_
        simp only [Act.put, List.setIfInBounds_toArray, List.set_cons_zero, List.set_cons_succ]
        refine wpAnyH_take (i := 1) (oi := ⟨some 6, .fieldAddr 59 (.tmp 5) 2, _, _, _, none⟩) (v := .pointer (some ⟨w.heap.size, 2, none⟩)) rfl (by kernel_rfl) (by kernel_rfl) (by kernel_rfl) (fun _ _ _ h => h) (Or.inl ⟨by rfl, fun w _ => by go_simp⟩) hHeld ?_
        simp only [Act.put, List.setIfInBounds_toArray, List.set_cons_zero, List.set_cons_succ]
        refine wpAnyH_take (i := 2) (oi := ⟨some 7, .load 3 (.tmp 6), _, _, _, none⟩) (v := .int .i64 p.2.2.1) rfl (by kernel_rfl) (by kernel_rfl) (by kernel_rfl) (fun _ _ _ h => h) (Or.inl ⟨by rfl, fun wz hSw => by have e1 : wz.cell? ⟨w.heap.size, 2, none⟩ = some (.int .i64 p.2.2.1) := hSw.1 2 _ rfl; clear hSw; go_simp⟩) hHeld ?_
        simp only [Act.put, List.setIfInBounds_toArray, List.set_cons_zero, List.set_cons_succ]
        refine wpAnyH_take (i := 3) (oi := ⟨some 8, .binOp .leq 3 (.const (.int .i64 1)) (.tmp 7) 3, _, _, _, none⟩) (v := .bool true) rfl (by kernel_rfl) (by kernel_rfl) (by kernel_rfl) (fun _ _ _ h => h) (Or.inl ⟨by rfl, fun w _ => by go_simp⟩) hHeld ?_
        simp only [Act.put, List.setIfInBounds_toArray, List.set_cons_zero, List.set_cons_succ]
        refine wpAnyH_take (i := 4) (oi := ⟨some 9, .move (.tmp 8), _, _, _, none⟩) (v := .bool true) rfl (by kernel_rfl) (by kernel_rfl) (by kernel_rfl) (fun _ _ _ h => h) (Or.inl ⟨by rfl, fun _ _ => rfl⟩) hHeld ?_
        simp only [Act.put, List.setIfInBounds_toArray, List.set_cons_zero, List.set_cons_succ]
        refine wpAnyH_take (i := 5) (oi := ⟨some 10, .fieldAddr 73 (.tmp 2) 0, _, _, _, _⟩) (v := .pointer (some ⟨w.heap.size, 0, none⟩)) rfl (by kernel_rfl) (by kernel_rfl) (by kernel_rfl) (fun _ _ _ h => h) (Or.inl ⟨by rfl, fun w _ => by go_simp⟩) hHeld ?_
        simp only [Act.put, List.setIfInBounds_toArray, List.set_cons_zero, List.set_cons_succ]
        refine wpAnyH_take (i := 6) (oi := ⟨some 11, .fieldAddr 59 (.tmp 10) 2, _, _, _, _⟩) (v := .pointer (some ⟨w.heap.size, 2, none⟩)) rfl (by kernel_rfl) (by kernel_rfl) (by kernel_rfl) (fun _ _ _ h => h) (Or.inl ⟨by rfl, fun w _ => by go_simp⟩) hHeld ?_
        simp only [Act.put, List.setIfInBounds_toArray, List.set_cons_zero, List.set_cons_succ]
        refine wpAnyH_take (i := 7) (oi := ⟨some 12, .load 3 (.tmp 11), _, _, _, _⟩) (v := .int .i64 p.2.2.1) rfl (by kernel_rfl) (by kernel_rfl) (by kernel_rfl) (fun _ _ _ h => h) (Or.inl ⟨by rfl, fun wz hSw => by have e1 : wz.cell? ⟨w.heap.size, 2, none⟩ = some (.int .i64 p.2.2.1) := hSw.1 2 _ rfl; clear hSw; go_simp⟩) hHeld ?_
        simp only [Act.put, List.setIfInBounds_toArray, List.set_cons_zero, List.set_cons_succ]
        refine wpAnyH_take (i := 8) (oi := ⟨some 13, .binOp .leq 3 (.tmp 12) (.const (.int .i64 512)) 3, _, _, _, _⟩) (v := .bool true) rfl (by kernel_rfl) (by kernel_rfl) (by kernel_rfl) (fun _ _ _ h => h) (Or.inl ⟨by rfl, fun w _ => by go_simp⟩) hHeld ?_
        simp only [Act.put, List.setIfInBounds_toArray, List.set_cons_zero, List.set_cons_succ]
        refine wpAnyH_take (i := 9) (oi := ⟨some 14, .pick (.tmp 9) (.tmp 13) (.const (.bool false)), _, _, _, none⟩) (v := .bool true) rfl (by kernel_rfl) (by kernel_rfl) (by kernel_rfl) (fun _ _ _ h => h) (Or.inl ⟨by rfl, fun w _ => by go_simp⟩) hHeld ?_
        simp only [Act.put, List.setIfInBounds_toArray, List.set_cons_zero, List.set_cons_succ]
        refine wpAnyH_take (i := 10) (oi := ⟨some 15, .move (.tmp 14), _, _, _, none⟩) (v := .bool true) rfl (by kernel_rfl) (by kernel_rfl) (by kernel_rfl) (fun _ _ _ h => h) (Or.inl ⟨by rfl, fun _ _ => rfl⟩) hHeld ?_
        simp only [Act.put, List.setIfInBounds_toArray, List.set_cons_zero, List.set_cons_succ]
        refine wpAnyH_take (i := 11) (oi := ⟨some 16, .fieldAddr 73 (.tmp 2) 0, _, _, _, _⟩) (v := .pointer (some ⟨w.heap.size, 0, none⟩)) rfl (by kernel_rfl) (by kernel_rfl) (by kernel_rfl) (fun _ _ _ h => h) (Or.inl ⟨by rfl, fun w _ => by go_simp⟩) hHeld ?_
        simp only [Act.put, List.setIfInBounds_toArray, List.set_cons_zero, List.set_cons_succ]
        refine wpAnyH_take (i := 12) (oi := ⟨some 17, .fieldAddr 59 (.tmp 16) 1, _, _, _, _⟩) (v := .pointer (some ⟨w.heap.size, 1, none⟩)) rfl (by kernel_rfl) (by kernel_rfl) (by kernel_rfl) (fun _ _ _ h => h) (Or.inl ⟨by rfl, fun w _ => by go_simp⟩) hHeld ?_
        simp only [Act.put, List.setIfInBounds_toArray, List.set_cons_zero, List.set_cons_succ]
        refine wpAnyH_take (i := 13) (oi := ⟨some 18, .load 3 (.tmp 17), _, _, _, _⟩) (v := .int .i64 p.2.1) rfl (by kernel_rfl) (by kernel_rfl) (by kernel_rfl) (fun _ _ _ h => h) (Or.inl ⟨by rfl, fun wz hSw => by have e1 : wz.cell? ⟨w.heap.size, 1, none⟩ = some (.int .i64 p.2.1) := hSw.1 1 _ rfl; clear hSw; go_simp⟩) hHeld ?_
        simp only [Act.put, List.setIfInBounds_toArray, List.set_cons_zero, List.set_cons_succ]
        refine wpAnyH_take (i := 14) (oi := ⟨some 19, .fieldAddr 73 (.tmp 2) 0, _, _, _, _⟩) (v := .pointer (some ⟨w.heap.size, 0, none⟩)) rfl (by kernel_rfl) (by kernel_rfl) (by kernel_rfl) (fun _ _ _ h => h) (Or.inl ⟨by rfl, fun w _ => by go_simp⟩) hHeld ?_
        simp only [Act.put, List.setIfInBounds_toArray, List.set_cons_zero, List.set_cons_succ]
        refine wpAnyH_take (i := 15) (oi := ⟨some 20, .fieldAddr 59 (.tmp 19) 2, _, _, _, _⟩) (v := .pointer (some ⟨w.heap.size, 2, none⟩)) rfl (by kernel_rfl) (by kernel_rfl) (by kernel_rfl) (fun _ _ _ h => h) (Or.inl ⟨by rfl, fun w _ => by go_simp⟩) hHeld ?_
        simp only [Act.put, List.setIfInBounds_toArray, List.set_cons_zero, List.set_cons_succ]
        refine wpAnyH_take (i := 16) (oi := ⟨some 21, .load 3 (.tmp 20), _, _, _, _⟩) (v := .int .i64 p.2.2.1) rfl (by kernel_rfl) (by kernel_rfl) (by kernel_rfl) (fun _ _ _ h => h) (Or.inl ⟨by rfl, fun wz hSw => by have e1 : wz.cell? ⟨w.heap.size, 2, none⟩ = some (.int .i64 p.2.2.1) := hSw.1 2 _ rfl; clear hSw; go_simp⟩) hHeld ?_
        simp only [Act.put, List.setIfInBounds_toArray, List.set_cons_zero, List.set_cons_succ]
        refine wpAnyH_take (i := 17) (oi := ⟨some 22, .binOp .add 3 (.tmp 18) (.tmp 21) 3, _, _, _, _⟩) (v := .int .i64 (p.2.1 + p.2.2.1)) rfl (by kernel_rfl) (by kernel_rfl) (by kernel_rfl) (fun _ _ _ h => h) (Or.inl ⟨by rfl, fun w _ => by go_simp⟩) hHeld ?_
        simp only [Act.put, List.setIfInBounds_toArray, List.set_cons_zero, List.set_cons_succ]
        refine wpAnyH_take (i := 18) (oi := ⟨some 23, .load 24 (.tmp 3), _, _, _, _⟩) (v := .agg ([.slice A n c]).toArray) rfl (by kernel_rfl) (by kernel_rfl) (by kernel_rfl) (fun _ _ _ h => h) (yieldsIf_load_mid (by rfl) _ _ rfl (w.heap.size + 1) 0 rfl ([.slice A n c]) _ (fun wz hSw => hSw.2) Try.underlying24 rfl memS) hHeld ?_
        simp only [Act.put, List.setIfInBounds_toArray, List.set_cons_zero, List.set_cons_succ]
        refine wpAnyH_ready (rs := [19]) (by kernel_rfl) (by simp) (AllReadyH.cons (o := ⟨some 24, .call { callee := .value (.func 34), args := #[.tmp 23], argTypes := #[24] }, _, _, _, _⟩) rfl (fun K' hK => ?_) (AllReadyH.nil))
        go_simp
        (with_reducible refine (KS.out _).mono ?_)
        rintro e w1 ⟨rfl, l1⟩
        replace b2 := b2.keep l1
        replace b3 := b3.keep l1
        replace lw := Later.trans_ lw l1
        refine hK.out _ _ ⟨b2.range 0 6, b3.range 0 1⟩ (fun hHeld => ?_)
        clear hK K'
        try simp only [Act.put, List.setIfInBounds_toArray, List.set_cons_zero, List.set_cons_succ]
        refine wpAnyH_take (i := 20) (oi := ⟨some 25, .binOp .leq 3 (.tmp 22) (.tmp 24) 3, _, _, _, _⟩) (v := .bool false) rfl (by kernel_rfl) (by kernel_rfl) (by kernel_rfl) (fun _ _ _ h => h) (Or.inl ⟨by rfl, fun w _ => by go_simp⟩) hHeld ?_
        simp only [Act.put, List.setIfInBounds_toArray, List.set_cons_zero, List.set_cons_succ]
        refine wpAnyH_take (i := 21) (oi := ⟨some 26, .pick (.tmp 15) (.tmp 25) (.const (.bool false)), _, _, _, none⟩) (v := .bool false) rfl (by kernel_rfl) (by kernel_rfl) (by kernel_rfl) (fun _ _ _ h => h) (Or.inl ⟨by rfl, fun w _ => by go_simp⟩) hHeld ?_
        simp only [Act.put, List.setIfInBounds_toArray, List.set_cons_zero, List.set_cons_succ]
        refine wpAnyH_take (i := 22) (oi := ⟨some 4, .assign (.tmp 26), _, _, _, none⟩) (v := .bool false) rfl (by kernel_rfl) (by kernel_rfl) (by kernel_rfl) (fun _ _ _ h => h) (Or.inl ⟨by rfl, fun _ _ => rfl⟩) hHeld ?_
        simp only [Act.put, List.setIfInBounds_toArray, List.set_cons_zero, List.set_cons_succ]
        refine wpAnyH_done (by kernel_rfl) ?_ _
        clear hHeld
        go_wp2
        go_ret
        exact ⟨rfl, lw⟩
    · have d2 : decide (p.2.2.1 ≤ 512) = false := decide_eq_false q2
      rw [show insP (n * 128) p = false from decide_eq_false (fun h => q2 h.2.1)]
      go_enter Try.func80, Try.ntmps80
      go_upto_region 1 with fail
      have hu2 : ((w.alloc (.cells #[.int .i64 p.1, .int .i64 p.2.1, .int .i64 p.2.2.1, .bool p.2.2.2, .int .u32 f, .int .u32 s] 73)).alloc (.cells #[.slice A n c] 24)) = u0 := hu
      try rw [hu2]
      clear hu hu2
      replace b2 := b2.drew
      replace b3 := b3.drew
      replace lw := lw.drew
      refine wp_region_held_drew (S := fun w' => World.rangeAt w' w.heap.size 0 (dcC p f s) ∧ World.rangeAt w' (w.heap.size + 1) 0 [.slice A n c]) (by kernel_rfl) ⟨b2.range 0 6, b3.range 0 1⟩ (fun hHeld => ?_)
      refine wpAnyH_take (i := 0) (oi := ⟨some 5, .fieldAddr 73 (.tmp 2) 0, _, _, _, none⟩) (v := .pointer (some ⟨w.heap.size, 0, none⟩)) rfl (by kernel_rfl) (by kernel_rfl) (by kernel_rfl) (fun _ _ _ h => h) (Or.inl ⟨by rfl, fun w _ => by go_simp⟩) hHeld ?_
      simp only [Act.put, List.setIfInBounds_toArray, List.set_cons_zero, List.set_cons_succ]
      refine wpAnyH_take (i := 1) (oi := ⟨some 6, .fieldAddr 59 (.tmp 5) 2, _, _, _, none⟩) (v := .pointer (some ⟨w.heap.size, 2, none⟩)) rfl (by kernel_rfl) (by kernel_rfl) (by kernel_rfl) (fun _ _ _ h => h) (Or.inl ⟨by rfl, fun w _ => by go_simp⟩) hHeld ?_
      simp only [Act.put, List.setIfInBounds_toArray, List.set_cons_zero, List.set_cons_succ]
      refine wpAnyH_take (i := 2) (oi := ⟨some 7, .load 3 (.tmp 6), _, _, _, none⟩) (v := .int .i64 p.2.2.1) rfl (by kernel_rfl) (by kernel_rfl) (by kernel_rfl) (fun _ _ _ h => h) (Or.inl ⟨by rfl, fun wz hSw => by have e1 : wz.cell? ⟨w.heap.size, 2, none⟩ = some (.int .i64 p.2.2.1) := hSw.1 2 _ rfl; clear hSw; go_simp⟩) hHeld ?_
      simp only [Act.put, List.setIfInBounds_toArray, List.set_cons_zero, List.set_cons_succ]
      refine wpAnyH_take (i := 3) (oi := ⟨some 8, .binOp .leq 3 (.const (.int .i64 1)) (.tmp 7) 3, _, _, _, none⟩) (v := .bool true) rfl (by kernel_rfl) (by kernel_rfl) (by kernel_rfl) (fun _ _ _ h => h) (Or.inl ⟨by rfl, fun w _ => by go_simp⟩) hHeld ?_
      simp only [Act.put, List.setIfInBounds_toArray, List.set_cons_zero, List.set_cons_succ]
      refine wpAnyH_take (i := 4) (oi := ⟨some 9, .move (.tmp 8), _, _, _, none⟩) (v := .bool true) rfl (by kernel_rfl) (by kernel_rfl) (by kernel_rfl) (fun _ _ _ h => h) (Or.inl ⟨by rfl, fun _ _ => rfl⟩) hHeld ?_
      simp only [Act.put, List.setIfInBounds_toArray, List.set_cons_zero, List.set_cons_succ]
      refine wpAnyH_take (i := 5) (oi := ⟨some 10, .fieldAddr 73 (.tmp 2) 0, _, _, _, _⟩) (v := .pointer (some ⟨w.heap.size, 0, none⟩)) rfl (by kernel_rfl) (by kernel_rfl) (by kernel_rfl) (fun _ _ _ h => h) (Or.inl ⟨by rfl, fun w _ => by go_simp⟩) hHeld ?_
      simp only [Act.put, List.setIfInBounds_toArray, List.set_cons_zero, List.set_cons_succ]
      refine wpAnyH_take (i := 6) (oi := ⟨some 11, .fieldAddr 59 (.tmp 10) 2, _, _, _, _⟩) (v := .pointer (some ⟨w.heap.size, 2, none⟩)) rfl (by kernel_rfl) (by kernel_rfl) (by kernel_rfl) (fun _ _ _ h => h) (Or.inl ⟨by rfl, fun w _ => by go_simp⟩) hHeld ?_
      simp only [Act.put, List.setIfInBounds_toArray, List.set_cons_zero, List.set_cons_succ]
      refine wpAnyH_take (i := 7) (oi := ⟨some 12, .load 3 (.tmp 11), _, _, _, _⟩) (v := .int .i64 p.2.2.1) rfl (by kernel_rfl) (by kernel_rfl) (by kernel_rfl) (fun _ _ _ h => h) (Or.inl ⟨by rfl, fun wz hSw => by have e1 : wz.cell? ⟨w.heap.size, 2, none⟩ = some (.int .i64 p.2.2.1) := hSw.1 2 _ rfl; clear hSw; go_simp⟩) hHeld ?_
      simp only [Act.put, List.setIfInBounds_toArray, List.set_cons_zero, List.set_cons_succ]
      refine wpAnyH_take (i := 8) (oi := ⟨some 13, .binOp .leq 3 (.tmp 12) (.const (.int .i64 512)) 3, _, _, _, _⟩) (v := .bool false) rfl (by kernel_rfl) (by kernel_rfl) (by kernel_rfl) (fun _ _ _ h => h) (Or.inl ⟨by rfl, fun w _ => by go_simp⟩) hHeld ?_
      simp only [Act.put, List.setIfInBounds_toArray, List.set_cons_zero, List.set_cons_succ]
      refine wpAnyH_take (i := 9) (oi := ⟨some 14, .pick (.tmp 9) (.tmp 13) (.const (.bool false)), _, _, _, none⟩) (v := .bool false) rfl (by kernel_rfl) (by kernel_rfl) (by kernel_rfl) (fun _ _ _ h => h) (Or.inl ⟨by rfl, fun w _ => by go_simp⟩) hHeld ?_
      simp only [Act.put, List.setIfInBounds_toArray, List.set_cons_zero, List.set_cons_succ]
      refine wpAnyH_take (i := 10) (oi := ⟨some 15, .move (.tmp 14), _, _, _, none⟩) (v := .bool false) rfl (by kernel_rfl) (by kernel_rfl) (by kernel_rfl) (fun _ _ _ h => h) (Or.inl ⟨by rfl, fun _ _ => rfl⟩) hHeld ?_
      simp only [Act.put, List.setIfInBounds_toArray, List.set_cons_zero, List.set_cons_succ]
      refine wpAnyH_take (i := 11) (oi := ⟨some 16, .fieldAddr 73 (.tmp 2) 0, _, _, _, _⟩) (v := undef) rfl (by kernel_rfl) (by kernel_rfl) (by kernel_rfl) (fun _ _ _ h => h) (Or.inr ⟨by rfl, rfl⟩) hHeld ?_
      simp only [Act.put, List.setIfInBounds_toArray, List.set_cons_zero, List.set_cons_succ]
      refine wpAnyH_take (i := 12) (oi := ⟨some 17, .fieldAddr 59 (.tmp 16) 1, _, _, _, _⟩) (v := undef) rfl (by kernel_rfl) (by kernel_rfl) (by kernel_rfl) (fun _ _ _ h => h) (Or.inr ⟨by rfl, rfl⟩) hHeld ?_
      simp only [Act.put, List.setIfInBounds_toArray, List.set_cons_zero, List.set_cons_succ]
      refine wpAnyH_take (i := 13) (oi := ⟨some 18, .load 3 (.tmp 17), _, _, _, _⟩) (v := undef) rfl (by kernel_rfl) (by kernel_rfl) (by kernel_rfl) (fun _ _ _ h => h) (Or.inr ⟨by rfl, rfl⟩) hHeld ?_
      simp only [Act.put, List.setIfInBounds_toArray, List.set_cons_zero, List.set_cons_succ]
      refine wpAnyH_take (i := 14) (oi := ⟨some 19, .fieldAddr 73 (.tmp 2) 0, _, _, _, _⟩) (v := undef) rfl (by kernel_rfl) (by kernel_rfl) (by kernel_rfl) (fun _ _ _ h => h) (Or.inr ⟨by rfl, rfl⟩) hHeld ?_
      simp only [Act.put, List.setIfInBounds_toArray, List.set_cons_zero, List.set_cons_succ]
      refine wpAnyH_take (i := 15) (oi := ⟨some 20, .fieldAddr 59 (.tmp 19) 2, _, _, _, _⟩) (v := undef) rfl (by kernel_rfl) (by kernel_rfl) (by kernel_rfl) (fun _ _ _ h => h) (Or.inr ⟨by rfl, rfl⟩) hHeld ?_
      simp only [Act.put, List.setIfInBounds_toArray, List.set_cons_zero, List.set_cons_succ]
      refine wpAnyH_take (i := 16) (oi := ⟨some 21, .load 3 (.tmp 20), _, _, _, _⟩) (v := undef) rfl (by kernel_rfl) (by kernel_rfl) (by kernel_rfl) (fun _ _ _ h => h) (Or.inr ⟨by rfl, rfl⟩) hHeld ?_
      simp only [Act.put, List.setIfInBounds_toArray, List.set_cons_zero, List.set_cons_succ]
      refine wpAnyH_take (i := 17) (oi := ⟨some 22, .binOp .add 3 (.tmp 18) (.tmp 21) 3, _, _, _, _⟩) (v := undef) rfl (by kernel_rfl) (by kernel_rfl) (by kernel_rfl) (fun _ _ _ h => h) (Or.inr ⟨by rfl, rfl⟩) hHeld ?_
      simp only [Act.put, List.setIfInBounds_toArray, List.set_cons_zero, List.set_cons_succ]
      refine wpAnyH_take (i := 18) (oi := ⟨some 23, .load 24 (.tmp 3), _, _, _, _⟩) (v := undef) rfl (by kernel_rfl) (by kernel_rfl) (by kernel_rfl) (fun _ _ _ h => h) (Or.inr ⟨by rfl, rfl⟩) hHeld ?_
      simp only [Act.put, List.setIfInBounds_toArray, List.set_cons_zero, List.set_cons_succ]
      refine wpAnyH_take (i := 19) (oi := ⟨some 24, .call { callee := .value (.func 34), args := #[.tmp 23], argTypes := #[24] }, _, _, _, _⟩) (v := undef) rfl (by kernel_rfl) (by kernel_rfl) (by kernel_rfl) (fun _ _ _ h => h) (Or.inr ⟨by rfl, rfl⟩) hHeld ?_
      simp only [Act.put, List.setIfInBounds_toArray, List.set_cons_zero, List.set_cons_succ]
      refine wpAnyH_take (i := 20) (oi := ⟨some 25, .binOp .leq 3 (.tmp 22) (.tmp 24) 3, _, _, _, _⟩) (v := undef) rfl (by kernel_rfl) (by kernel_rfl) (by kernel_rfl) (fun _ _ _ h => h) (Or.inr ⟨by rfl, rfl⟩) hHeld ?_
      simp only [Act.put, List.setIfInBounds_toArray, List.set_cons_zero, List.set_cons_succ]
      refine wpAnyH_take (i := 21) (oi := ⟨some 26, .pick (.tmp 15) (.tmp 25) (.const (.bool false)), _, _, _, none⟩) (v := .bool false) rfl (by kernel_rfl) (by kernel_rfl) (by kernel_rfl) (fun _ _ _ h => h) (Or.inl ⟨by rfl, fun w _ => by go_simp⟩) hHeld ?_
      simp only [Act.put, List.setIfInBounds_toArray, List.set_cons_zero, List.set_cons_succ]
      refine wpAnyH_take (i := 22) (oi := ⟨some 4, .assign (.tmp 26), _, _, _, none⟩) (v := .bool false) rfl (by kernel_rfl) (by kernel_rfl) (by kernel_rfl) (fun _ _ _ h => h) (Or.inl ⟨by rfl, fun _ _ => rfl⟩) hHeld ?_
      simp only [Act.put, List.setIfInBounds_toArray, List.set_cons_zero, List.set_cons_succ]
      refine wpAnyH_done (by kernel_rfl) ?_ _
      clear hHeld
      go_wp2
      go_ret
      exact ⟨rfl, lw⟩
  · have d1 : decide (1 ≤ p.2.2.1) = false := decide_eq_false q1
    rw [show insP (n * 128) p = false from decide_eq_false (fun h => q1 h.1)]
    go_enter Try.func80, Try.ntmps80
    go_upto_region 1 with fail
    have hu2 : ((w.alloc (.cells #[.int .i64 p.1, .int .i64 p.2.1, .int .i64 p.2.2.1, .bool p.2.2.2, .int .u32 f, .int .u32 s] 73)).alloc (.cells #[.slice A n c] 24)) = u0 := hu
    try rw [hu2]
    clear hu hu2
    replace b2 := b2.drew
    replace b3 := b3.drew
    replace lw := lw.drew
    refine wp_region_held_drew (S := fun w' => World.rangeAt w' w.heap.size 0 (dcC p f s) ∧ World.rangeAt w' (w.heap.size + 1) 0 [.slice A n c]) (by kernel_rfl) ⟨b2.range 0 6, b3.range 0 1⟩ (fun hHeld => ?_)
    refine wpAnyH_take (i := 0) (oi := ⟨some 5, .fieldAddr 73 (.tmp 2) 0, _, _, _, none⟩) (v := .pointer (some ⟨w.heap.size, 0, none⟩)) rfl (by kernel_rfl) (by kernel_rfl) (by kernel_rfl) (fun _ _ _ h => h) (Or.inl ⟨by rfl, fun w _ => by go_simp⟩) hHeld ?_
    simp only [Act.put, List.setIfInBounds_toArray, List.set_cons_zero, List.set_cons_succ]
    refine wpAnyH_take (i := 1) (oi := ⟨some 6, .fieldAddr 59 (.tmp 5) 2, _, _, _, none⟩) (v := .pointer (some ⟨w.heap.size, 2, none⟩)) rfl (by kernel_rfl) (by kernel_rfl) (by kernel_rfl) (fun _ _ _ h => h) (Or.inl ⟨by rfl, fun w _ => by go_simp⟩) hHeld ?_
    simp only [Act.put, List.setIfInBounds_toArray, List.set_cons_zero, List.set_cons_succ]
    refine wpAnyH_take (i := 2) (oi := ⟨some 7, .load 3 (.tmp 6), _, _, _, none⟩) (v := .int .i64 p.2.2.1) rfl (by kernel_rfl) (by kernel_rfl) (by kernel_rfl) (fun _ _ _ h => h) (Or.inl ⟨by rfl, fun wz hSw => by have e1 : wz.cell? ⟨w.heap.size, 2, none⟩ = some (.int .i64 p.2.2.1) := hSw.1 2 _ rfl; clear hSw; go_simp⟩) hHeld ?_
    simp only [Act.put, List.setIfInBounds_toArray, List.set_cons_zero, List.set_cons_succ]
    refine wpAnyH_take (i := 3) (oi := ⟨some 8, .binOp .leq 3 (.const (.int .i64 1)) (.tmp 7) 3, _, _, _, none⟩) (v := .bool false) rfl (by kernel_rfl) (by kernel_rfl) (by kernel_rfl) (fun _ _ _ h => h) (Or.inl ⟨by rfl, fun w _ => by go_simp⟩) hHeld ?_
    simp only [Act.put, List.setIfInBounds_toArray, List.set_cons_zero, List.set_cons_succ]
    refine wpAnyH_take (i := 4) (oi := ⟨some 9, .move (.tmp 8), _, _, _, none⟩) (v := .bool false) rfl (by kernel_rfl) (by kernel_rfl) (by kernel_rfl) (fun _ _ _ h => h) (Or.inl ⟨by rfl, fun _ _ => rfl⟩) hHeld ?_
    simp only [Act.put, List.setIfInBounds_toArray, List.set_cons_zero, List.set_cons_succ]
    refine wpAnyH_take (i := 5) (oi := ⟨some 10, .fieldAddr 73 (.tmp 2) 0, _, _, _, _⟩) (v := undef) rfl (by kernel_rfl) (by kernel_rfl) (by kernel_rfl) (fun _ _ _ h => h) (Or.inr ⟨by rfl, rfl⟩) hHeld ?_
    simp only [Act.put, List.setIfInBounds_toArray, List.set_cons_zero, List.set_cons_succ]
    refine wpAnyH_take (i := 6) (oi := ⟨some 11, .fieldAddr 59 (.tmp 10) 2, _, _, _, _⟩) (v := undef) rfl (by kernel_rfl) (by kernel_rfl) (by kernel_rfl) (fun _ _ _ h => h) (Or.inr ⟨by rfl, rfl⟩) hHeld ?_
    simp only [Act.put, List.setIfInBounds_toArray, List.set_cons_zero, List.set_cons_succ]
    refine wpAnyH_take (i := 7) (oi := ⟨some 12, .load 3 (.tmp 11), _, _, _, _⟩) (v := undef) rfl (by kernel_rfl) (by kernel_rfl) (by kernel_rfl) (fun _ _ _ h => h) (Or.inr ⟨by rfl, rfl⟩) hHeld ?_
    simp only [Act.put, List.setIfInBounds_toArray, List.set_cons_zero, List.set_cons_succ]
    refine wpAnyH_take (i := 8) (oi := ⟨some 13, .binOp .leq 3 (.tmp 12) (.const (.int .i64 512)) 3, _, _, _, _⟩) (v := undef) rfl (by kernel_rfl) (by kernel_rfl) (by kernel_rfl) (fun _ _ _ h => h) (Or.inr ⟨by rfl, rfl⟩) hHeld ?_
    simp only [Act.put, List.setIfInBounds_toArray, List.set_cons_zero, List.set_cons_succ]
    refine wpAnyH_take (i := 9) (oi := ⟨some 14, .pick (.tmp 9) (.tmp 13) (.const (.bool false)), _, _, _, none⟩) (v := .bool false) rfl (by kernel_rfl) (by kernel_rfl) (by kernel_rfl) (fun _ _ _ h => h) (Or.inl ⟨by rfl, fun w _ => by go_simp⟩) hHeld ?_
    simp only [Act.put, List.setIfInBounds_toArray, List.set_cons_zero, List.set_cons_succ]
    refine wpAnyH_take (i := 10) (oi := ⟨some 15, .move (.tmp 14), _, _, _, none⟩) (v := .bool false) rfl (by kernel_rfl) (by kernel_rfl) (by kernel_rfl) (fun _ _ _ h => h) (Or.inl ⟨by rfl, fun _ _ => rfl⟩) hHeld ?_
    simp only [Act.put, List.setIfInBounds_toArray, List.set_cons_zero, List.set_cons_succ]
    refine wpAnyH_take (i := 11) (oi := ⟨some 16, .fieldAddr 73 (.tmp 2) 0, _, _, _, _⟩) (v := undef) rfl (by kernel_rfl) (by kernel_rfl) (by kernel_rfl) (fun _ _ _ h => h) (Or.inr ⟨by rfl, rfl⟩) hHeld ?_
    simp only [Act.put, List.setIfInBounds_toArray, List.set_cons_zero, List.set_cons_succ]
    refine wpAnyH_take (i := 12) (oi := ⟨some 17, .fieldAddr 59 (.tmp 16) 1, _, _, _, _⟩) (v := undef) rfl (by kernel_rfl) (by kernel_rfl) (by kernel_rfl) (fun _ _ _ h => h) (Or.inr ⟨by rfl, rfl⟩) hHeld ?_
    simp only [Act.put, List.setIfInBounds_toArray, List.set_cons_zero, List.set_cons_succ]
    refine wpAnyH_take (i := 13) (oi := ⟨some 18, .load 3 (.tmp 17), _, _, _, _⟩) (v := undef) rfl (by kernel_rfl) (by kernel_rfl) (by kernel_rfl) (fun _ _ _ h => h) (Or.inr ⟨by rfl, rfl⟩) hHeld ?_
    simp only [Act.put, List.setIfInBounds_toArray, List.set_cons_zero, List.set_cons_succ]
    refine wpAnyH_take (i := 14) (oi := ⟨some 19, .fieldAddr 73 (.tmp 2) 0, _, _, _, _⟩) (v := undef) rfl (by kernel_rfl) (by kernel_rfl) (by kernel_rfl) (fun _ _ _ h => h) (Or.inr ⟨by rfl, rfl⟩) hHeld ?_
    simp only [Act.put, List.setIfInBounds_toArray, List.set_cons_zero, List.set_cons_succ]
    refine wpAnyH_take (i := 15) (oi := ⟨some 20, .fieldAddr 59 (.tmp 19) 2, _, _, _, _⟩) (v := undef) rfl (by kernel_rfl) (by kernel_rfl) (by kernel_rfl) (fun _ _ _ h => h) (Or.inr ⟨by rfl, rfl⟩) hHeld ?_
    simp only [Act.put, List.setIfInBounds_toArray, List.set_cons_zero, List.set_cons_succ]
    refine wpAnyH_take (i := 16) (oi := ⟨some 21, .load 3 (.tmp 20), _, _, _, _⟩) (v := undef) rfl (by kernel_rfl) (by kernel_rfl) (by kernel_rfl) (fun _ _ _ h => h) (Or.inr ⟨by rfl, rfl⟩) hHeld ?_
    simp only [Act.put, List.setIfInBounds_toArray, List.set_cons_zero, List.set_cons_succ]
    refine wpAnyH_take (i := 17) (oi := ⟨some 22, .binOp .add 3 (.tmp 18) (.tmp 21) 3, _, _, _, _⟩) (v := undef) rfl (by kernel_rfl) (by kernel_rfl) (by kernel_rfl) (fun _ _ _ h => h) (Or.inr ⟨by rfl, rfl⟩) hHeld ?_
    simp only [Act.put, List.setIfInBounds_toArray, List.set_cons_zero, List.set_cons_succ]
    refine wpAnyH_take (i := 18) (oi := ⟨some 23, .load 24 (.tmp 3), _, _, _, _⟩) (v := undef) rfl (by kernel_rfl) (by kernel_rfl) (by kernel_rfl) (fun _ _ _ h => h) (Or.inr ⟨by rfl, rfl⟩) hHeld ?_
    simp only [Act.put, List.setIfInBounds_toArray, List.set_cons_zero, List.set_cons_succ]
    refine wpAnyH_take (i := 19) (oi := ⟨some 24, .call { callee := .value (.func 34), args := #[.tmp 23], argTypes := #[24] }, _, _, _, _⟩) (v := undef) rfl (by kernel_rfl) (by kernel_rfl) (by kernel_rfl) (fun _ _ _ h => h) (Or.inr ⟨by rfl, rfl⟩) hHeld ?_
    simp only [Act.put, List.setIfInBounds_toArray, List.set_cons_zero, List.set_cons_succ]
    refine wpAnyH_take (i := 20) (oi := ⟨some 25, .binOp .leq 3 (.tmp 22) (.tmp 24) 3, _, _, _, _⟩) (v := undef) rfl (by kernel_rfl) (by kernel_rfl) (by kernel_rfl) (fun _ _ _ h => h) (Or.inr ⟨by rfl, rfl⟩) hHeld ?_
    simp only [Act.put, List.setIfInBounds_toArray, List.set_cons_zero, List.set_cons_succ]
    refine wpAnyH_take (i := 21) (oi := ⟨some 26, .pick (.tmp 15) (.tmp 25) (.const (.bool false)), _, _, _, none⟩) (v := .bool false) rfl (by kernel_rfl) (by kernel_rfl) (by kernel_rfl) (fun _ _ _ h => h) (Or.inl ⟨by rfl, fun w _ => by go_simp⟩) hHeld ?_
    simp only [Act.put, List.setIfInBounds_toArray, List.set_cons_zero, List.set_cons_succ]
    refine wpAnyH_take (i := 22) (oi := ⟨some 4, .assign (.tmp 26), _, _, _, none⟩) (v := .bool false) rfl (by kernel_rfl) (by kernel_rfl) (by kernel_rfl) (fun _ _ _ h => h) (Or.inl ⟨by rfl, fun _ _ => rfl⟩) hHeld ?_
    simp only [Act.put, List.setIfInBounds_toArray, List.set_cons_zero, List.set_cons_succ]
    refine wpAnyH_done (by kernel_rfl) ?_ _
    clear hHeld
    go_wp2
    go_ret
    exact ⟨rfl, lw⟩
/-- The first error of a descriptor. -/
def chkE (L : Nat) (l : List Rg.Pt) (p : Rg.Pt) (f s : Int) : Int :=
  if l.length = 4 ∨ Rg.has l p.1 = true then 163 else if ¬ s = 1 then 165 else if insP L p = false then 161 else if hwF f = true ∨ p.2.2.2 = false ∧ Rg.wri l = true then 164 else 0
set_option maxRecDepth 100000 in
set_option maxHeartbeats 4000000 in
theorem check_any (p : Rg.Pt) (f s : Int) (A : Option Addr) (n c : Nat) (A' : Option Addr) (m c' : Nat) (l : List Rg.Pt) (w : World) (hf : Tm.isE f) (hn : n ≤ 64) (h0 : 0 ≤ p.2.1) (h1 : p.2.1 < 4294967296) (h2 : 0 ≤ p.2.2.1) (h3 : p.2.2.1 < 4294967296) (hs : Sl w 4 A' m (Ps l)) (hl : l.length = m) (hm : m ≤ 4) :
    Calls Try.prog 64 #[.agg (dcC p f s).toArray, .agg #[.slice A n c], .slice A' m c'] w fun e w' => e = .returned (.int .i64 (chkE (n * 128) l p f s)) ∧ Later w w' := by
  have KO := Lib.hid fun w' => isOffered_any p f s w'
  have KI := Lib.hid fun w' => isInside_any p f s A n c w' hn h0 h1 h2 h3
  have KH := Lib.hid fun w' => hasWrong_any p f s w' hf
  have KC := Lib.hid fun w' (k : Later w w') => contains_at A' m c' l p f s w' (hs.keep k) hl (by omega)
  have KW := Lib.hid fun w' (k : Later w w') => contains_wri A' m c' l w' (hs.keep k) hl (by omega)
  obtain ⟨RR, hR⟩ : ∃ z, z = chkE (n * 128) l p f s := ⟨_, rfl⟩
  rw [← hR]
  unfold chkE at hR
  rw [hl] at hR
  change Hid (∀ w', Later w w' → Calls Try.prog 78 #[.slice A' m c', .func (.func 79) #[.agg (dcC p f s).toArray] #[]] w' fun e w'_1 => e = .returned (.bool (Rg.has l p.1)) ∧ Later w' w'_1) at KC
  change Hid (∀ w', Later w w' → Calls Try.prog 78 #[.slice A' m c', .func (.func 82) #[] #[]] w' fun e w'_1 => e = .returned (.bool (Rg.wri l)) ∧ Later w' w'_1) at KW
  obtain ⟨ha, hha⟩ : ∃ z, z = Rg.has l p.1 := ⟨_, rfl⟩
  obtain ⟨wi, hwi⟩ : ∃ z, z = Rg.wri l := ⟨_, rfl⟩
  obtain ⟨iN, hiN⟩ : ∃ z, z = insP (n * 128) p := ⟨_, rfl⟩
  obtain ⟨hw, hhw⟩ : ∃ z, z = hwF f := ⟨_, rfl⟩
  obtain ⟨of, hof⟩ : ∃ z, z = decide (s = 1) := ⟨_, rfl⟩
  have hof2 : (s = 1) ↔ of = true := by rw [hof]; simp
  rw [← hha] at KC
  rw [← hwi] at KW
  rw [← hiN] at KI
  rw [← hhw] at KH
  rw [← hof] at KO
  rw [← hha, ← hwi, ← hiN, ← hhw] at hR
  simp only [hof2] at hR
  clear hha hwi hiN hhw hof hof2 hs hl hf h0 h1 h2 h3
  have b3 : Blk _ w.heap.size 73 (dcC p f s) := ((Blk.new' w w.heap.size 73 (dcC p f s).toArray (dcC p f s) (by simp) rfl).alloc (.cells ([.slice A n c]).toArray 24))
  have b4 : Blk _ (w.heap.size + 1) 24 ([.slice A n c]) := (Blk.new' (w.alloc (.cells (dcC p f s).toArray 73)) (w.heap.size + 1) 24 ([.slice A n c]).toArray ([.slice A n c]) (by simp) rfl)
  have lw := ((later1 w (.cells (dcC p f s).toArray 73)).alloc (by simp; try omega) (.cells ([.slice A n c]).toArray 24))
  obtain ⟨u0, hu⟩ : ∃ u, ((w.alloc (.cells (dcC p f s).toArray 73)).alloc (.cells ([.slice A n c]).toArray 24)) = u := ⟨_, rfl⟩
  rw [hu] at b3 b4 lw
  by_cases q4 : m = 4
  · subst q4
    rw [if_pos (Or.inl rfl)] at hR
    subst hR
    go_enter Try.func64, Try.ntmps64
    go_upto_region 1 with fail
    have hu2 : ((w.alloc (.cells #[.int .i64 p.1, .int .i64 p.2.1, .int .i64 p.2.2.1, .bool p.2.2.2, .int .u32 f, .int .u32 s] 73)).alloc (.cells #[.slice A n c] 24)) = u0 := hu
    try rw [hu2]
    clear hu hu2
    have e3 := b3.cell (j := 3) (v := .bool p.2.2.2) rfl
    go_wp2_with (first
      | ((with_reducible refine wpList_load_g (o := ⟨some 13, .load 73 (.tmp 3), _, _, _, _⟩) _ _ rfl w.heap.size 73 (dcC p f s) _ ?_ ?_ ?_ Try.underlying73 ?_ (dc_sz _ _ _) ?_); rfl; rfl; exact b3; rfl)
      | ((with_reducible refine wpList_load_blk (o := ⟨some 18, .load 73 (.tmp 3), _, _, _, none⟩) rfl _ _ rfl w.heap.size 73 (dcC p f s) _ ?_ ?_ Try.underlying73 rfl (dc_sz _ _ _) ?_); rfl; exact b3)
      | ((with_reducible refine wpList_load_blk (o := ⟨some 22, .load 73 (.tmp 3), _, _, _, none⟩) rfl _ _ rfl w.heap.size 73 (dcC p f s) _ ?_ ?_ Try.underlying73 rfl (dc_sz _ _ _) ?_); rfl; exact b3)
      | ((with_reducible refine wpList_load_blk (o := ⟨some 27, .load 73 (.tmp 3), _, _, _, none⟩) rfl _ _ rfl w.heap.size 73 (dcC p f s) _ ?_ ?_ Try.underlying73 rfl (dc_sz _ _ _) ?_); rfl; exact b3)
      | ((with_reducible refine wpList_load_blk (o := ⟨some 23, .load 24 (.tmp 4), _, _, _, none⟩) rfl _ _ rfl (w.heap.size + 1) 24 ([.slice A n c]) _ ?_ ?_ Try.underlying24 rfl memS ?_); rfl; exact b4)
      | (go_at_call 78; (with_reducible refine (KW.out _ lw).mono ?_); rintro e w5 ⟨rfl, l5⟩; replace b3 := b3.keep l5; replace b4 := b4.keep l5; replace lw := Later.trans_ lw l5; clear e3; have e3 := b3.cell (j := 3) (v := .bool p.2.2.2) rfl)
      | (go_at_call 81; (with_reducible refine (KH.out _).mono ?_); rintro e w4 ⟨rfl, l4⟩; replace b3 := b3.keep l4; replace b4 := b4.keep l4; replace lw := Later.trans_ lw l4; clear e3; have e3 := b3.cell (j := 3) (v := .bool p.2.2.2) rfl)
      | (go_at_call 80; (with_reducible refine (KI.out _).mono ?_); rintro e w3 ⟨rfl, l3⟩; replace b3 := b3.keep l3; replace b4 := b4.keep l3; replace lw := Later.trans_ lw l3; clear e3; have e3 := b3.cell (j := 3) (v := .bool p.2.2.2) rfl)
      | (go_at_call 41; (with_reducible refine (KO.out _).mono ?_); rintro e w2 ⟨rfl, l2⟩; replace b3 := b3.keep l2; replace b4 := b4.keep l2; replace lw := Later.trans_ lw l2; clear e3; have e3 := b3.cell (j := 3) (v := .bool p.2.2.2) rfl)
      | (go_at_call 78; (with_reducible refine (KC.out _ lw).mono ?_); rintro e w1 ⟨rfl, l1⟩; replace b3 := b3.keep l1; replace b4 := b4.keep l1; replace lw := Later.trans_ lw l1; clear e3; have e3 := b3.cell (j := 3) (v := .bool p.2.2.2) rfl))
    go_ret
    exact ⟨rfl, lw⟩
  · have d4 : ((m : Int) == 4) = false := beq_eq_false_iff_ne.2 (by omega)
    simp only [q4, false_or] at hR
    clear q4
    cases ha
    · cases of
      · obtain rfl : RR = 165 := by simpa using hR
        clear hR
        go_enter Try.func64, Try.ntmps64
        go_upto_region 1 with fail
        have hu2 : ((w.alloc (.cells #[.int .i64 p.1, .int .i64 p.2.1, .int .i64 p.2.2.1, .bool p.2.2.2, .int .u32 f, .int .u32 s] 73)).alloc (.cells #[.slice A n c] 24)) = u0 := hu
        try rw [hu2]
        clear hu hu2
        have e3 := b3.cell (j := 3) (v := .bool p.2.2.2) rfl
        go_wp2_with (first
          | ((with_reducible refine wpList_load_g (o := ⟨some 13, .load 73 (.tmp 3), _, _, _, _⟩) _ _ rfl w.heap.size 73 (dcC p f s) _ ?_ ?_ ?_ Try.underlying73 ?_ (dc_sz _ _ _) ?_); rfl; rfl; exact b3; rfl)
          | ((with_reducible refine wpList_load_blk (o := ⟨some 18, .load 73 (.tmp 3), _, _, _, none⟩) rfl _ _ rfl w.heap.size 73 (dcC p f s) _ ?_ ?_ Try.underlying73 rfl (dc_sz _ _ _) ?_); rfl; exact b3)
          | ((with_reducible refine wpList_load_blk (o := ⟨some 22, .load 73 (.tmp 3), _, _, _, none⟩) rfl _ _ rfl w.heap.size 73 (dcC p f s) _ ?_ ?_ Try.underlying73 rfl (dc_sz _ _ _) ?_); rfl; exact b3)
          | ((with_reducible refine wpList_load_blk (o := ⟨some 27, .load 73 (.tmp 3), _, _, _, none⟩) rfl _ _ rfl w.heap.size 73 (dcC p f s) _ ?_ ?_ Try.underlying73 rfl (dc_sz _ _ _) ?_); rfl; exact b3)
          | ((with_reducible refine wpList_load_blk (o := ⟨some 23, .load 24 (.tmp 4), _, _, _, none⟩) rfl _ _ rfl (w.heap.size + 1) 24 ([.slice A n c]) _ ?_ ?_ Try.underlying24 rfl memS ?_); rfl; exact b4)
          | (go_at_call 78; (with_reducible refine (KW.out _ lw).mono ?_); rintro e w5 ⟨rfl, l5⟩; replace b3 := b3.keep l5; replace b4 := b4.keep l5; replace lw := Later.trans_ lw l5; clear e3; have e3 := b3.cell (j := 3) (v := .bool p.2.2.2) rfl)
          | (go_at_call 81; (with_reducible refine (KH.out _).mono ?_); rintro e w4 ⟨rfl, l4⟩; replace b3 := b3.keep l4; replace b4 := b4.keep l4; replace lw := Later.trans_ lw l4; clear e3; have e3 := b3.cell (j := 3) (v := .bool p.2.2.2) rfl)
          | (go_at_call 80; (with_reducible refine (KI.out _).mono ?_); rintro e w3 ⟨rfl, l3⟩; replace b3 := b3.keep l3; replace b4 := b4.keep l3; replace lw := Later.trans_ lw l3; clear e3; have e3 := b3.cell (j := 3) (v := .bool p.2.2.2) rfl)
          | (go_at_call 41; (with_reducible refine (KO.out _).mono ?_); rintro e w2 ⟨rfl, l2⟩; replace b3 := b3.keep l2; replace b4 := b4.keep l2; replace lw := Later.trans_ lw l2; clear e3; have e3 := b3.cell (j := 3) (v := .bool p.2.2.2) rfl)
          | (go_at_call 78; (with_reducible refine (KC.out _ lw).mono ?_); rintro e w1 ⟨rfl, l1⟩; replace b3 := b3.keep l1; replace b4 := b4.keep l1; replace lw := Later.trans_ lw l1; clear e3; have e3 := b3.cell (j := 3) (v := .bool p.2.2.2) rfl))
        go_ret
        exact ⟨rfl, lw⟩
      · cases iN
        · obtain rfl : RR = 161 := by simpa using hR
          clear hR
          go_enter Try.func64, Try.ntmps64
          go_upto_region 1 with fail
          have hu2 : ((w.alloc (.cells #[.int .i64 p.1, .int .i64 p.2.1, .int .i64 p.2.2.1, .bool p.2.2.2, .int .u32 f, .int .u32 s] 73)).alloc (.cells #[.slice A n c] 24)) = u0 := hu
          try rw [hu2]
          clear hu hu2
          have e3 := b3.cell (j := 3) (v := .bool p.2.2.2) rfl
          go_wp2_with (first
            | ((with_reducible refine wpList_load_g (o := ⟨some 13, .load 73 (.tmp 3), _, _, _, _⟩) _ _ rfl w.heap.size 73 (dcC p f s) _ ?_ ?_ ?_ Try.underlying73 ?_ (dc_sz _ _ _) ?_); rfl; rfl; exact b3; rfl)
            | ((with_reducible refine wpList_load_blk (o := ⟨some 18, .load 73 (.tmp 3), _, _, _, none⟩) rfl _ _ rfl w.heap.size 73 (dcC p f s) _ ?_ ?_ Try.underlying73 rfl (dc_sz _ _ _) ?_); rfl; exact b3)
            | ((with_reducible refine wpList_load_blk (o := ⟨some 22, .load 73 (.tmp 3), _, _, _, none⟩) rfl _ _ rfl w.heap.size 73 (dcC p f s) _ ?_ ?_ Try.underlying73 rfl (dc_sz _ _ _) ?_); rfl; exact b3)
            | ((with_reducible refine wpList_load_blk (o := ⟨some 27, .load 73 (.tmp 3), _, _, _, none⟩) rfl _ _ rfl w.heap.size 73 (dcC p f s) _ ?_ ?_ Try.underlying73 rfl (dc_sz _ _ _) ?_); rfl; exact b3)
            | ((with_reducible refine wpList_load_blk (o := ⟨some 23, .load 24 (.tmp 4), _, _, _, none⟩) rfl _ _ rfl (w.heap.size + 1) 24 ([.slice A n c]) _ ?_ ?_ Try.underlying24 rfl memS ?_); rfl; exact b4)
            | (go_at_call 78; (with_reducible refine (KW.out _ lw).mono ?_); rintro e w5 ⟨rfl, l5⟩; replace b3 := b3.keep l5; replace b4 := b4.keep l5; replace lw := Later.trans_ lw l5; clear e3; have e3 := b3.cell (j := 3) (v := .bool p.2.2.2) rfl)
            | (go_at_call 81; (with_reducible refine (KH.out _).mono ?_); rintro e w4 ⟨rfl, l4⟩; replace b3 := b3.keep l4; replace b4 := b4.keep l4; replace lw := Later.trans_ lw l4; clear e3; have e3 := b3.cell (j := 3) (v := .bool p.2.2.2) rfl)
            | (go_at_call 80; (with_reducible refine (KI.out _).mono ?_); rintro e w3 ⟨rfl, l3⟩; replace b3 := b3.keep l3; replace b4 := b4.keep l3; replace lw := Later.trans_ lw l3; clear e3; have e3 := b3.cell (j := 3) (v := .bool p.2.2.2) rfl)
            | (go_at_call 41; (with_reducible refine (KO.out _).mono ?_); rintro e w2 ⟨rfl, l2⟩; replace b3 := b3.keep l2; replace b4 := b4.keep l2; replace lw := Later.trans_ lw l2; clear e3; have e3 := b3.cell (j := 3) (v := .bool p.2.2.2) rfl)
            | (go_at_call 78; (with_reducible refine (KC.out _ lw).mono ?_); rintro e w1 ⟨rfl, l1⟩; replace b3 := b3.keep l1; replace b4 := b4.keep l1; replace lw := Later.trans_ lw l1; clear e3; have e3 := b3.cell (j := 3) (v := .bool p.2.2.2) rfl))
          go_ret
          exact ⟨rfl, lw⟩
        · cases hw
          · cases hpw : p.2.2.2
            · cases wi
              · obtain rfl : RR = 0 := by simpa using hR
                clear hR
                go_enter Try.func64, Try.ntmps64
                go_upto_region 1 with fail
                have hu2 : ((w.alloc (.cells #[.int .i64 p.1, .int .i64 p.2.1, .int .i64 p.2.2.1, .bool p.2.2.2, .int .u32 f, .int .u32 s] 73)).alloc (.cells #[.slice A n c] 24)) = u0 := hu
                try rw [hu2]
                clear hu hu2
                have e3 := b3.cell (j := 3) (v := .bool p.2.2.2) rfl
                go_wp2_with (first
                  | ((with_reducible refine wpList_load_g (o := ⟨some 13, .load 73 (.tmp 3), _, _, _, _⟩) _ _ rfl w.heap.size 73 (dcC p f s) _ ?_ ?_ ?_ Try.underlying73 ?_ (dc_sz _ _ _) ?_); rfl; rfl; exact b3; rfl)
                  | ((with_reducible refine wpList_load_blk (o := ⟨some 18, .load 73 (.tmp 3), _, _, _, none⟩) rfl _ _ rfl w.heap.size 73 (dcC p f s) _ ?_ ?_ Try.underlying73 rfl (dc_sz _ _ _) ?_); rfl; exact b3)
                  | ((with_reducible refine wpList_load_blk (o := ⟨some 22, .load 73 (.tmp 3), _, _, _, none⟩) rfl _ _ rfl w.heap.size 73 (dcC p f s) _ ?_ ?_ Try.underlying73 rfl (dc_sz _ _ _) ?_); rfl; exact b3)
                  | ((with_reducible refine wpList_load_blk (o := ⟨some 27, .load 73 (.tmp 3), _, _, _, none⟩) rfl _ _ rfl w.heap.size 73 (dcC p f s) _ ?_ ?_ Try.underlying73 rfl (dc_sz _ _ _) ?_); rfl; exact b3)
                  | ((with_reducible refine wpList_load_blk (o := ⟨some 23, .load 24 (.tmp 4), _, _, _, none⟩) rfl _ _ rfl (w.heap.size + 1) 24 ([.slice A n c]) _ ?_ ?_ Try.underlying24 rfl memS ?_); rfl; exact b4)
                  | (go_at_call 78; (with_reducible refine (KW.out _ lw).mono ?_); rintro e w5 ⟨rfl, l5⟩; replace b3 := b3.keep l5; replace b4 := b4.keep l5; replace lw := Later.trans_ lw l5; clear e3; have e3 := b3.cell (j := 3) (v := .bool p.2.2.2) rfl)
                  | (go_at_call 81; (with_reducible refine (KH.out _).mono ?_); rintro e w4 ⟨rfl, l4⟩; replace b3 := b3.keep l4; replace b4 := b4.keep l4; replace lw := Later.trans_ lw l4; clear e3; have e3 := b3.cell (j := 3) (v := .bool p.2.2.2) rfl)
                  | (go_at_call 80; (with_reducible refine (KI.out _).mono ?_); rintro e w3 ⟨rfl, l3⟩; replace b3 := b3.keep l3; replace b4 := b4.keep l3; replace lw := Later.trans_ lw l3; clear e3; have e3 := b3.cell (j := 3) (v := .bool p.2.2.2) rfl)
                  | (go_at_call 41; (with_reducible refine (KO.out _).mono ?_); rintro e w2 ⟨rfl, l2⟩; replace b3 := b3.keep l2; replace b4 := b4.keep l2; replace lw := Later.trans_ lw l2; clear e3; have e3 := b3.cell (j := 3) (v := .bool p.2.2.2) rfl)
                  | (go_at_call 78; (with_reducible refine (KC.out _ lw).mono ?_); rintro e w1 ⟨rfl, l1⟩; replace b3 := b3.keep l1; replace b4 := b4.keep l1; replace lw := Later.trans_ lw l1; clear e3; have e3 := b3.cell (j := 3) (v := .bool p.2.2.2) rfl))
                go_ret
                exact ⟨rfl, lw⟩
              · obtain rfl : RR = 164 := by simpa [hpw] using hR
                clear hR
                go_enter Try.func64, Try.ntmps64
                go_upto_region 1 with fail
                have hu2 : ((w.alloc (.cells #[.int .i64 p.1, .int .i64 p.2.1, .int .i64 p.2.2.1, .bool p.2.2.2, .int .u32 f, .int .u32 s] 73)).alloc (.cells #[.slice A n c] 24)) = u0 := hu
                try rw [hu2]
                clear hu hu2
                have e3 := b3.cell (j := 3) (v := .bool p.2.2.2) rfl
                go_wp2_with (first
                  | ((with_reducible refine wpList_load_g (o := ⟨some 13, .load 73 (.tmp 3), _, _, _, _⟩) _ _ rfl w.heap.size 73 (dcC p f s) _ ?_ ?_ ?_ Try.underlying73 ?_ (dc_sz _ _ _) ?_); rfl; rfl; exact b3; rfl)
                  | ((with_reducible refine wpList_load_blk (o := ⟨some 18, .load 73 (.tmp 3), _, _, _, none⟩) rfl _ _ rfl w.heap.size 73 (dcC p f s) _ ?_ ?_ Try.underlying73 rfl (dc_sz _ _ _) ?_); rfl; exact b3)
                  | ((with_reducible refine wpList_load_blk (o := ⟨some 22, .load 73 (.tmp 3), _, _, _, none⟩) rfl _ _ rfl w.heap.size 73 (dcC p f s) _ ?_ ?_ Try.underlying73 rfl (dc_sz _ _ _) ?_); rfl; exact b3)
                  | ((with_reducible refine wpList_load_blk (o := ⟨some 27, .load 73 (.tmp 3), _, _, _, none⟩) rfl _ _ rfl w.heap.size 73 (dcC p f s) _ ?_ ?_ Try.underlying73 rfl (dc_sz _ _ _) ?_); rfl; exact b3)
                  | ((with_reducible refine wpList_load_blk (o := ⟨some 23, .load 24 (.tmp 4), _, _, _, none⟩) rfl _ _ rfl (w.heap.size + 1) 24 ([.slice A n c]) _ ?_ ?_ Try.underlying24 rfl memS ?_); rfl; exact b4)
                  | (go_at_call 78; (with_reducible refine (KW.out _ lw).mono ?_); rintro e w5 ⟨rfl, l5⟩; replace b3 := b3.keep l5; replace b4 := b4.keep l5; replace lw := Later.trans_ lw l5; clear e3; have e3 := b3.cell (j := 3) (v := .bool p.2.2.2) rfl)
                  | (go_at_call 81; (with_reducible refine (KH.out _).mono ?_); rintro e w4 ⟨rfl, l4⟩; replace b3 := b3.keep l4; replace b4 := b4.keep l4; replace lw := Later.trans_ lw l4; clear e3; have e3 := b3.cell (j := 3) (v := .bool p.2.2.2) rfl)
                  | (go_at_call 80; (with_reducible refine (KI.out _).mono ?_); rintro e w3 ⟨rfl, l3⟩; replace b3 := b3.keep l3; replace b4 := b4.keep l3; replace lw := Later.trans_ lw l3; clear e3; have e3 := b3.cell (j := 3) (v := .bool p.2.2.2) rfl)
                  | (go_at_call 41; (with_reducible refine (KO.out _).mono ?_); rintro e w2 ⟨rfl, l2⟩; replace b3 := b3.keep l2; replace b4 := b4.keep l2; replace lw := Later.trans_ lw l2; clear e3; have e3 := b3.cell (j := 3) (v := .bool p.2.2.2) rfl)
                  | (go_at_call 78; (with_reducible refine (KC.out _ lw).mono ?_); rintro e w1 ⟨rfl, l1⟩; replace b3 := b3.keep l1; replace b4 := b4.keep l1; replace lw := Later.trans_ lw l1; clear e3; have e3 := b3.cell (j := 3) (v := .bool p.2.2.2) rfl))
                go_ret
                exact ⟨rfl, lw⟩
            · obtain rfl : RR = 0 := by simpa [hpw] using hR
              clear hR
              go_enter Try.func64, Try.ntmps64
              go_upto_region 1 with fail
              have hu2 : ((w.alloc (.cells #[.int .i64 p.1, .int .i64 p.2.1, .int .i64 p.2.2.1, .bool p.2.2.2, .int .u32 f, .int .u32 s] 73)).alloc (.cells #[.slice A n c] 24)) = u0 := hu
              try rw [hu2]
              clear hu hu2
              have e3 := b3.cell (j := 3) (v := .bool p.2.2.2) rfl
              go_wp2_with (first
                | ((with_reducible refine wpList_load_g (o := ⟨some 13, .load 73 (.tmp 3), _, _, _, _⟩) _ _ rfl w.heap.size 73 (dcC p f s) _ ?_ ?_ ?_ Try.underlying73 ?_ (dc_sz _ _ _) ?_); rfl; rfl; exact b3; rfl)
                | ((with_reducible refine wpList_load_blk (o := ⟨some 18, .load 73 (.tmp 3), _, _, _, none⟩) rfl _ _ rfl w.heap.size 73 (dcC p f s) _ ?_ ?_ Try.underlying73 rfl (dc_sz _ _ _) ?_); rfl; exact b3)
                | ((with_reducible refine wpList_load_blk (o := ⟨some 22, .load 73 (.tmp 3), _, _, _, none⟩) rfl _ _ rfl w.heap.size 73 (dcC p f s) _ ?_ ?_ Try.underlying73 rfl (dc_sz _ _ _) ?_); rfl; exact b3)
                | ((with_reducible refine wpList_load_blk (o := ⟨some 27, .load 73 (.tmp 3), _, _, _, none⟩) rfl _ _ rfl w.heap.size 73 (dcC p f s) _ ?_ ?_ Try.underlying73 rfl (dc_sz _ _ _) ?_); rfl; exact b3)
                | ((with_reducible refine wpList_load_blk (o := ⟨some 23, .load 24 (.tmp 4), _, _, _, none⟩) rfl _ _ rfl (w.heap.size + 1) 24 ([.slice A n c]) _ ?_ ?_ Try.underlying24 rfl memS ?_); rfl; exact b4)
                | (go_at_call 78; (with_reducible refine (KW.out _ lw).mono ?_); rintro e w5 ⟨rfl, l5⟩; replace b3 := b3.keep l5; replace b4 := b4.keep l5; replace lw := Later.trans_ lw l5; clear e3; have e3 := b3.cell (j := 3) (v := .bool p.2.2.2) rfl)
                | (go_at_call 81; (with_reducible refine (KH.out _).mono ?_); rintro e w4 ⟨rfl, l4⟩; replace b3 := b3.keep l4; replace b4 := b4.keep l4; replace lw := Later.trans_ lw l4; clear e3; have e3 := b3.cell (j := 3) (v := .bool p.2.2.2) rfl)
                | (go_at_call 80; (with_reducible refine (KI.out _).mono ?_); rintro e w3 ⟨rfl, l3⟩; replace b3 := b3.keep l3; replace b4 := b4.keep l3; replace lw := Later.trans_ lw l3; clear e3; have e3 := b3.cell (j := 3) (v := .bool p.2.2.2) rfl)
                | (go_at_call 41; (with_reducible refine (KO.out _).mono ?_); rintro e w2 ⟨rfl, l2⟩; replace b3 := b3.keep l2; replace b4 := b4.keep l2; replace lw := Later.trans_ lw l2; clear e3; have e3 := b3.cell (j := 3) (v := .bool p.2.2.2) rfl)
                | (go_at_call 78; (with_reducible refine (KC.out _ lw).mono ?_); rintro e w1 ⟨rfl, l1⟩; replace b3 := b3.keep l1; replace b4 := b4.keep l1; replace lw := Later.trans_ lw l1; clear e3; have e3 := b3.cell (j := 3) (v := .bool p.2.2.2) rfl))
              go_ret
              exact ⟨rfl, lw⟩
          · obtain rfl : RR = 164 := by simpa using hR
            clear hR
            go_enter Try.func64, Try.ntmps64
            go_upto_region 1 with fail
            have hu2 : ((w.alloc (.cells #[.int .i64 p.1, .int .i64 p.2.1, .int .i64 p.2.2.1, .bool p.2.2.2, .int .u32 f, .int .u32 s] 73)).alloc (.cells #[.slice A n c] 24)) = u0 := hu
            try rw [hu2]
            clear hu hu2
            have e3 := b3.cell (j := 3) (v := .bool p.2.2.2) rfl
            go_wp2_with (first
              | ((with_reducible refine wpList_load_g (o := ⟨some 13, .load 73 (.tmp 3), _, _, _, _⟩) _ _ rfl w.heap.size 73 (dcC p f s) _ ?_ ?_ ?_ Try.underlying73 ?_ (dc_sz _ _ _) ?_); rfl; rfl; exact b3; rfl)
              | ((with_reducible refine wpList_load_blk (o := ⟨some 18, .load 73 (.tmp 3), _, _, _, none⟩) rfl _ _ rfl w.heap.size 73 (dcC p f s) _ ?_ ?_ Try.underlying73 rfl (dc_sz _ _ _) ?_); rfl; exact b3)
              | ((with_reducible refine wpList_load_blk (o := ⟨some 22, .load 73 (.tmp 3), _, _, _, none⟩) rfl _ _ rfl w.heap.size 73 (dcC p f s) _ ?_ ?_ Try.underlying73 rfl (dc_sz _ _ _) ?_); rfl; exact b3)
              | ((with_reducible refine wpList_load_blk (o := ⟨some 27, .load 73 (.tmp 3), _, _, _, none⟩) rfl _ _ rfl w.heap.size 73 (dcC p f s) _ ?_ ?_ Try.underlying73 rfl (dc_sz _ _ _) ?_); rfl; exact b3)
              | ((with_reducible refine wpList_load_blk (o := ⟨some 23, .load 24 (.tmp 4), _, _, _, none⟩) rfl _ _ rfl (w.heap.size + 1) 24 ([.slice A n c]) _ ?_ ?_ Try.underlying24 rfl memS ?_); rfl; exact b4)
              | (go_at_call 78; (with_reducible refine (KW.out _ lw).mono ?_); rintro e w5 ⟨rfl, l5⟩; replace b3 := b3.keep l5; replace b4 := b4.keep l5; replace lw := Later.trans_ lw l5; clear e3; have e3 := b3.cell (j := 3) (v := .bool p.2.2.2) rfl)
              | (go_at_call 81; (with_reducible refine (KH.out _).mono ?_); rintro e w4 ⟨rfl, l4⟩; replace b3 := b3.keep l4; replace b4 := b4.keep l4; replace lw := Later.trans_ lw l4; clear e3; have e3 := b3.cell (j := 3) (v := .bool p.2.2.2) rfl)
              | (go_at_call 80; (with_reducible refine (KI.out _).mono ?_); rintro e w3 ⟨rfl, l3⟩; replace b3 := b3.keep l3; replace b4 := b4.keep l3; replace lw := Later.trans_ lw l3; clear e3; have e3 := b3.cell (j := 3) (v := .bool p.2.2.2) rfl)
              | (go_at_call 41; (with_reducible refine (KO.out _).mono ?_); rintro e w2 ⟨rfl, l2⟩; replace b3 := b3.keep l2; replace b4 := b4.keep l2; replace lw := Later.trans_ lw l2; clear e3; have e3 := b3.cell (j := 3) (v := .bool p.2.2.2) rfl)
              | (go_at_call 78; (with_reducible refine (KC.out _ lw).mono ?_); rintro e w1 ⟨rfl, l1⟩; replace b3 := b3.keep l1; replace b4 := b4.keep l1; replace lw := Later.trans_ lw l1; clear e3; have e3 := b3.cell (j := 3) (v := .bool p.2.2.2) rfl))
            go_ret
            exact ⟨rfl, lw⟩
    · obtain rfl : RR = 163 := by simpa using hR
      clear hR
      go_enter Try.func64, Try.ntmps64
      go_upto_region 1 with fail
      have hu2 : ((w.alloc (.cells #[.int .i64 p.1, .int .i64 p.2.1, .int .i64 p.2.2.1, .bool p.2.2.2, .int .u32 f, .int .u32 s] 73)).alloc (.cells #[.slice A n c] 24)) = u0 := hu
      try rw [hu2]
      clear hu hu2
      have e3 := b3.cell (j := 3) (v := .bool p.2.2.2) rfl
      go_wp2_with (first
        | ((with_reducible refine wpList_load_g (o := ⟨some 13, .load 73 (.tmp 3), _, _, _, _⟩) _ _ rfl w.heap.size 73 (dcC p f s) _ ?_ ?_ ?_ Try.underlying73 ?_ (dc_sz _ _ _) ?_); rfl; rfl; exact b3; rfl)
        | ((with_reducible refine wpList_load_blk (o := ⟨some 18, .load 73 (.tmp 3), _, _, _, none⟩) rfl _ _ rfl w.heap.size 73 (dcC p f s) _ ?_ ?_ Try.underlying73 rfl (dc_sz _ _ _) ?_); rfl; exact b3)
        | ((with_reducible refine wpList_load_blk (o := ⟨some 22, .load 73 (.tmp 3), _, _, _, none⟩) rfl _ _ rfl w.heap.size 73 (dcC p f s) _ ?_ ?_ Try.underlying73 rfl (dc_sz _ _ _) ?_); rfl; exact b3)
        | ((with_reducible refine wpList_load_blk (o := ⟨some 27, .load 73 (.tmp 3), _, _, _, none⟩) rfl _ _ rfl w.heap.size 73 (dcC p f s) _ ?_ ?_ Try.underlying73 rfl (dc_sz _ _ _) ?_); rfl; exact b3)
        | ((with_reducible refine wpList_load_blk (o := ⟨some 23, .load 24 (.tmp 4), _, _, _, none⟩) rfl _ _ rfl (w.heap.size + 1) 24 ([.slice A n c]) _ ?_ ?_ Try.underlying24 rfl memS ?_); rfl; exact b4)
        | (go_at_call 78; (with_reducible refine (KW.out _ lw).mono ?_); rintro e w5 ⟨rfl, l5⟩; replace b3 := b3.keep l5; replace b4 := b4.keep l5; replace lw := Later.trans_ lw l5; clear e3; have e3 := b3.cell (j := 3) (v := .bool p.2.2.2) rfl)
        | (go_at_call 81; (with_reducible refine (KH.out _).mono ?_); rintro e w4 ⟨rfl, l4⟩; replace b3 := b3.keep l4; replace b4 := b4.keep l4; replace lw := Later.trans_ lw l4; clear e3; have e3 := b3.cell (j := 3) (v := .bool p.2.2.2) rfl)
        | (go_at_call 80; (with_reducible refine (KI.out _).mono ?_); rintro e w3 ⟨rfl, l3⟩; replace b3 := b3.keep l3; replace b4 := b4.keep l3; replace lw := Later.trans_ lw l3; clear e3; have e3 := b3.cell (j := 3) (v := .bool p.2.2.2) rfl)
        | (go_at_call 41; (with_reducible refine (KO.out _).mono ?_); rintro e w2 ⟨rfl, l2⟩; replace b3 := b3.keep l2; replace b4 := b4.keep l2; replace lw := Later.trans_ lw l2; clear e3; have e3 := b3.cell (j := 3) (v := .bool p.2.2.2) rfl)
        | (go_at_call 78; (with_reducible refine (KC.out _ lw).mono ?_); rintro e w1 ⟨rfl, l1⟩; replace b3 := b3.keep l1; replace b4 := b4.keep l1; replace lw := Later.trans_ lw l1; clear e3; have e3 := b3.cell (j := 3) (v := .bool p.2.2.2) rfl))
      go_ret
      exact ⟨rfl, lw⟩
end Go.Proofs.Ytffgbbfcbobecaa
