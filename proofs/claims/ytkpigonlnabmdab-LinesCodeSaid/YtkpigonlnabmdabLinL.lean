/-
  A CONTROL: the reference's Port; what is asked, and an act, as arguments; act.
-/
import Derived.Test.YtkpigonlnabmdabLinK
import Derived.Deep.RegionHeld
namespace Go.Proofs.Ytkpigonlnabmdab
open Go.RowKit Go.ChangeShapes Go.WideShapes Go.ChangeAt

theorem yieldsIf_build {ops : Array Oper} {S : World → Prop} {op : Oper} {a : Act} (hw : Region.wanted op (yielded ops a.tmps) = true) (t : TypeId) (fs : Array (Nat × Operand)) (vs : Array (Nat × Value)) (C : Array Value) (ho : op.op = .build t fs)
    (hv : fs.toList.map (fun x => (x.1, a.eval x.2)) = vs.toList) (hr : ∀ w, (Instr.build t vs).run Try.prog w = .ok (.agg C) w) : YieldsIf Try.prog ops S op (.agg C) a :=
  .inl ⟨hw, fun w _ => by
    have e : fs.map (fun x => (x.1, a.eval x.2)) = vs := by
      apply Array.toList_inj.1; rw [Array.toList_map]; exact hv
    unfold execOp
    simp only [ho, e, Sem.run_bind, hr, Sem.run_pure, Result.andThen_ok]⟩
set_option maxRecDepth 100000 in
set_option maxHeartbeats 1000000 in
theorem rport_in0 (x : Ctl) (k : Nat) (v : Int) (w : World) (hx : x.Ok) (_ : x.wf) (hk : (k : Int) < x.n) (_ : Tm.isE v) : Calls Try.prog 13 #[.agg x.cells.toArray, .int .i64 (k : Int), .agg #[.bool true, .int .i64 0, .int .u32 v]] w fun e w' => e = .returned (.agg (didC x (x.m k) 0).toArray) ∧ Later w w' := by
  have hn4 := hx.n4
  have h4 : k < 4 := by omega
  have hk4 : (k : Int) < 4 := by omega
  have hk0 : (0 : Int) ≤ k := by omega
  have b3 := ((Blk.new w 26 x.cells.toArray x.cells rfl).alloc (.cells (ioC true 0 v).toArray 28)).alloc (.cells (didC zK 0 0).toArray 37)
  have b5 := (Blk.new' (w.alloc (.cells x.cells.toArray 26)) (w.heap.size + 1) 28 (ioC true 0 v).toArray (ioC true 0 v) (by simp) rfl).alloc (.cells (didC zK 0 0).toArray 37)
  have b6 := Blk.new' ((w.alloc (.cells x.cells.toArray 26)).alloc (.cells (ioC true 0 v).toArray 28)) (w.heap.size + 1 + 1) 37 (didC zK 0 0).toArray (didC zK 0 0) (by simp) rfl
  have lw := ((later1 w (.cells x.cells.toArray 26)).alloc (by simp) (.cells (ioC true 0 v).toArray 28)).alloc (by simp; omega) (.cells (didC zK 0 0).toArray 37)
  clear hx
  go_enter Try.func13, Try.ntmps13
  go_upto_region 1 with fail
  obtain ⟨u0, hu⟩ : ∃ u0, ((w.alloc (.cells x.cells.toArray 26)).alloc (.cells (ioC true 0 v).toArray 28)).alloc (.cells (didC zK 0 0).toArray 37) = u0 := ⟨_, rfl⟩
  rw [hu] at b3 b5 b6 lw
  have hu2 : ((w.alloc (.cells x.cells.toArray 26)).alloc (.cells #[.bool true, .int .i64 0, .int .u32 v] 28)).alloc (.cells #[.int .i64 0, .int .u32 0, .int .u32 0, .int .u32 0, .int .u32 0, .int .u32 0, .int .u32 0, .int .u32 0, .int .u32 0, .int .i64 0, .int .i64 0, .int .i64 0, .int .i64 0, .int .i64 0, .int .u32 0, .int .i64 0] 37) = u0 := hu
  rw [hu2]
  clear hu hu2
  have e0 := b5.cell (j := 0) (v := .bool true) rfl
  have e1 := b5.cell (j := 1) (v := .int .i64 0) rfl
  go_upto_region 5 with fail
  clear e0 e1
  replace b3 := b3.drew
  replace b6 := b6.drew
  replace lw := lw.drew
  refine wp_region_held_drew (S := fun w' => World.rangeAt w' w.heap.size 0 x.cells ∧ w'.cell? ⟨w.heap.size, 5 + k, none⟩ = some (.int .u32 (x.m k))) (by kernel_rfl) ⟨(show World.rangeAt _ w.heap.size 0 x.cells from b3.range 0 14), b3.cell (ctl_m x h4)⟩ (fun hHeld => ?_)
  refine wpAnyH_take (i := 0) (oi := ⟨some 22, .load 26 (.tmp 3), _, _, _, none⟩) (v := .agg x.cells.toArray) rfl (by kernel_rfl) (by kernel_rfl) (by kernel_rfl) (fun _ _ _ h => h) (yieldsIf_load_mid (by rfl) _ _ rfl _ _ rfl x.cells _ (fun w h => h.1) Try.underlying26 rfl (ctl_sz _)) hHeld ?_
  simp only [Act.put, List.setIfInBounds_toArray, List.set_cons_zero, List.set_cons_succ]
  refine wpAnyH_take (i := 1) (oi := ⟨some 23, .move (.tmp 1), _, _, _, none⟩) (v := .int .i64 (k : Int)) rfl (by kernel_rfl) (by kernel_rfl) (by kernel_rfl) (fun _ _ _ h => h) (Or.inl ⟨by rfl, fun _ _ => rfl⟩) hHeld ?_
  simp only [Act.put, List.setIfInBounds_toArray, List.set_cons_zero, List.set_cons_succ]
  refine wpAnyH_take (i := 2) (oi := ⟨some 24, .fieldAddr 26 (.tmp 3) 2, _, _, _, none⟩) (v := .pointer (some ⟨w.heap.size, 5, none⟩)) rfl (by kernel_rfl) (by kernel_rfl) (by kernel_rfl) (fun _ _ _ h => h) (Or.inl ⟨by rfl, fun w _ => by go_simp⟩) hHeld ?_
  simp only [Act.put, List.setIfInBounds_toArray, List.set_cons_zero, List.set_cons_succ]
  refine wpAnyH_take (i := 3) (oi := ⟨some 25, .indexAddr 23 (.tmp 24) (.tmp 23), _, _, _, none⟩) (v := .pointer (some ⟨w.heap.size, 5 + k, none⟩)) rfl (by kernel_rfl) (by kernel_rfl) (by kernel_rfl) (fun _ _ _ h => h) (Or.inl ⟨by rfl, fun w _ => by go_simp⟩) hHeld ?_
  simp only [Act.put, List.setIfInBounds_toArray, List.set_cons_zero, List.set_cons_succ]
  refine wpAnyH_take (i := 4) (oi := ⟨some 26, .load 22 (.tmp 25), _, _, _, none⟩) (v := .int .u32 (x.m k)) rfl (by kernel_rfl) (by kernel_rfl) (by kernel_rfl) (fun _ _ _ h => h) (Or.inl ⟨by rfl, fun w hSw => by have e1 := hSw.2; clear hSw; go_simp⟩) hHeld ?_
  simp only [Act.put, List.setIfInBounds_toArray, List.set_cons_zero, List.set_cons_succ]
  refine wpAnyH_take (i := 5) (oi := ⟨some 27, .build 37 #[(0, .tmp 22), (1, .tmp 26)], _, _, _, none⟩) (v := .agg (didC x (x.m k) 0).toArray) rfl (by kernel_rfl) (by kernel_rfl) (by kernel_rfl) (fun _ _ _ h => h) (yieldsIf_build (by rfl) _ _ #[(0, .agg x.cells.toArray), (1, .int .u32 (x.m k))] _ rfl rfl (run_dv x (x.m k))) hHeld ?_
  simp only [Act.put, List.setIfInBounds_toArray, List.set_cons_zero, List.set_cons_succ]
  refine wpAnyH_ready (rs := [6]) (by kernel_rfl) (by simp) (AllReadyH.cons (o := ⟨none, .store 37 (.tmp 6) (.tmp 27), _, _, _, none⟩) rfl (fun K' hK => ?_) (AllReadyH.nil))
  refine wp_store_blk 37 _ _ rfl (w.heap.size + 1 + 1) 37 (didC zK 0 0) (didC x (x.m k) 0) rfl rfl b6 (did_sz _ _ _) rfl (did_one _ _ _) ?_
  intro w9 b9 o9
  replace b3 := b3.only o9 (by omega)
  refine hK.out _ _ ⟨(show World.rangeAt _ w.heap.size 0 x.cells from b3.range 0 14), b3.cell (ctl_m x h4)⟩ (fun hHeld => ?_)
  clear hK K'
  try simp only [Act.put]
  refine wpAnyH_done (by kernel_rfl) ?_ _
  clear hHeld
  go_wp2
  exact bodyPost_ret (did_ret Try.results13 _ _ (w.heap.size + 1 + 1) x (x.m k) 0 rfl b9) rfl ⟨rfl, Below.only lw o9 (by omega)⟩
set_option maxRecDepth 100000 in
set_option maxHeartbeats 1000000 in
theorem rport_in1 (x : Ctl) (k : Nat) (v : Int) (w : World) (hx : x.Ok) (hw : x.wf) (hk : (k : Int) < x.n) (_ : Tm.isE v) : Calls Try.prog 13 #[.agg x.cells.toArray, .int .i64 (k : Int), .agg #[.bool true, .int .i64 1, .int .u32 v]] w fun e w' => e = .returned (.agg (didC x (x.pend k) 0).toArray) ∧ Later w w' := by
  have hn4 := hx.n4
  have h4 : k < 4 := by omega
  have hk4 : (k : Int) < 4 := by omega
  have hk0 : (0 : Int) ≤ k := by omega
  have KP := Lib.hid fun w' => rpending_any x k w' hx hw hk
  have b3 := ((Blk.new w 26 x.cells.toArray x.cells rfl).alloc (.cells (ioC true 1 v).toArray 28)).alloc (.cells (didC zK 0 0).toArray 37)
  have b5 := (Blk.new' (w.alloc (.cells x.cells.toArray 26)) (w.heap.size + 1) 28 (ioC true 1 v).toArray (ioC true 1 v) (by simp) rfl).alloc (.cells (didC zK 0 0).toArray 37)
  have b6 := Blk.new' ((w.alloc (.cells x.cells.toArray 26)).alloc (.cells (ioC true 1 v).toArray 28)) (w.heap.size + 1 + 1) 37 (didC zK 0 0).toArray (didC zK 0 0) (by simp) rfl
  have lw := ((later1 w (.cells x.cells.toArray 26)).alloc (by simp) (.cells (ioC true 1 v).toArray 28)).alloc (by simp; omega) (.cells (didC zK 0 0).toArray 37)
  clear hx hw
  go_enter Try.func13, Try.ntmps13
  go_upto_region 1 with fail
  obtain ⟨u0, hu⟩ : ∃ u0, ((w.alloc (.cells x.cells.toArray 26)).alloc (.cells (ioC true 1 v).toArray 28)).alloc (.cells (didC zK 0 0).toArray 37) = u0 := ⟨_, rfl⟩
  rw [hu] at b3 b5 b6 lw
  have hu2 : ((w.alloc (.cells x.cells.toArray 26)).alloc (.cells #[.bool true, .int .i64 1, .int .u32 v] 28)).alloc (.cells #[.int .i64 0, .int .u32 0, .int .u32 0, .int .u32 0, .int .u32 0, .int .u32 0, .int .u32 0, .int .u32 0, .int .u32 0, .int .i64 0, .int .i64 0, .int .i64 0, .int .i64 0, .int .i64 0, .int .u32 0, .int .i64 0] 37) = u0 := hu
  rw [hu2]
  clear hu hu2
  have e0 := b5.cell (j := 0) (v := .bool true) rfl
  have e1 := b5.cell (j := 1) (v := .int .i64 1) rfl
  go_upto_region 7 with fail
  clear e0 e1
  replace b3 := b3.drew
  replace b6 := b6.drew
  replace lw := lw.drew
  refine wp_region_held_drew (S := fun w' => World.rangeAt w' w.heap.size 0 x.cells) (by kernel_rfl) (show World.rangeAt _ w.heap.size 0 x.cells from b3.range 0 14) (fun hHeld => ?_)
  refine wpAnyH_take (i := 0) (oi := ⟨some 30, .load 26 (.tmp 3), _, _, _, none⟩) (v := .agg x.cells.toArray) rfl (by kernel_rfl) (by kernel_rfl) (by kernel_rfl) (fun _ _ _ h => h) (yieldsIf_load_mid (by rfl) _ _ rfl _ _ rfl x.cells _ (fun w h => h) Try.underlying26 rfl (ctl_sz _)) hHeld ?_
  simp only [Act.put, List.setIfInBounds_toArray, List.set_cons_zero, List.set_cons_succ]
  refine wpAnyH_take (i := 1) (oi := ⟨some 31, .load 26 (.tmp 3), _, _, _, none⟩) (v := .agg x.cells.toArray) rfl (by kernel_rfl) (by kernel_rfl) (by kernel_rfl) (fun _ _ _ h => h) (yieldsIf_load_mid (by rfl) _ _ rfl _ _ rfl x.cells _ (fun w h => h) Try.underlying26 rfl (ctl_sz _)) hHeld ?_
  simp only [Act.put, List.setIfInBounds_toArray, List.set_cons_zero, List.set_cons_succ]
  refine wpAnyH_take (i := 2) (oi := ⟨some 32, .move (.tmp 1), _, _, _, none⟩) (v := .int .i64 (k : Int)) rfl (by kernel_rfl) (by kernel_rfl) (by kernel_rfl) (fun _ _ _ h => h) (Or.inl ⟨by rfl, fun _ _ => rfl⟩) hHeld ?_
  simp only [Act.put, List.setIfInBounds_toArray, List.set_cons_zero, List.set_cons_succ]
  refine wpAnyH_ready (rs := [3]) (by kernel_rfl) (by simp) (AllReadyH.cons (o := ⟨some 33, .call { callee := .value (.func 17), args := #[.tmp 31, .tmp 32], argTypes := #[26, 3] }, _, _, _, none⟩) rfl (fun K' hK => ?_) (AllReadyH.nil))
  go_simp
  (with_reducible refine (KP.out _).mono ?_)
  rintro e v1 ⟨rfl, l1⟩
  replace b3 := b3.keep l1
  replace b6 := b6.keep l1
  replace lw := Later.trans_ lw l1
  refine hK.out _ _ (show World.rangeAt _ w.heap.size 0 x.cells from b3.range 0 14) (fun hHeld => ?_)
  clear hK K'
  try simp only [Act.put, List.setIfInBounds_toArray, List.set_cons_zero, List.set_cons_succ]
  refine wpAnyH_take (i := 4) (oi := ⟨some 34, .build 37 #[(0, .tmp 30), (1, .tmp 33)], _, _, _, none⟩) (v := .agg (didC x (x.pend k) 0).toArray) rfl (by kernel_rfl) (by kernel_rfl) (by kernel_rfl) (fun _ _ _ h => h) (yieldsIf_build (by rfl) _ _ #[(0, .agg x.cells.toArray), (1, .int .u32 (x.pend k))] _ rfl rfl (run_dv x (x.pend k))) hHeld ?_
  simp only [Act.put, List.setIfInBounds_toArray, List.set_cons_zero, List.set_cons_succ]
  refine wpAnyH_ready (rs := [5]) (by kernel_rfl) (by simp) (AllReadyH.cons (o := ⟨none, .store 37 (.tmp 6) (.tmp 34), _, _, _, none⟩) rfl (fun K' hK => ?_) (AllReadyH.nil))
  refine wp_store_blk 37 _ _ rfl (w.heap.size + 1 + 1) 37 (didC zK 0 0) (didC x (x.pend k) 0) rfl rfl b6 (did_sz _ _ _) rfl (did_one _ _ _) ?_
  intro w9 b9 o9
  replace b3 := b3.only o9 (by omega)
  refine hK.out _ _ (show World.rangeAt _ w.heap.size 0 x.cells from b3.range 0 14) (fun hHeld => ?_)
  clear hK K'
  try simp only [Act.put]
  refine wpAnyH_done (by kernel_rfl) ?_ _
  clear hHeld
  go_wp2
  exact bodyPost_ret (did_ret Try.results13 _ _ (w.heap.size + 1 + 1) x (x.pend k) 0 rfl b9) rfl ⟨rfl, Below.only lw o9 (by omega)⟩
set_option maxRecDepth 100000 in
set_option maxHeartbeats 1000000 in
theorem rport_inX (x : Ctl) (k : Nat) (p : Int) (v : Int) (w : World) (hx : x.Ok) (_ : x.wf) (hk : (k : Int) < x.n) (_ : Tm.isE v) (h0 : p ≠ 0) (h1 : p ≠ 1) : Calls Try.prog 13 #[.agg x.cells.toArray, .int .i64 (k : Int), .agg #[.bool true, .int .i64 p, .int .u32 v]] w fun e w' => e = .returned (.agg (didC x 0 5).toArray) ∧ Later w w' := by
  have hn4 := hx.n4
  have h4 : k < 4 := by omega
  have hk4 : (k : Int) < 4 := by omega
  have hk0 : (0 : Int) ≤ k := by omega
  have b3 := ((Blk.new w 26 x.cells.toArray x.cells rfl).alloc (.cells (ioC true p v).toArray 28)).alloc (.cells (didC zK 0 0).toArray 37)
  have b5 := (Blk.new' (w.alloc (.cells x.cells.toArray 26)) (w.heap.size + 1) 28 (ioC true p v).toArray (ioC true p v) (by simp) rfl).alloc (.cells (didC zK 0 0).toArray 37)
  have b6 := Blk.new' ((w.alloc (.cells x.cells.toArray 26)).alloc (.cells (ioC true p v).toArray 28)) (w.heap.size + 1 + 1) 37 (didC zK 0 0).toArray (didC zK 0 0) (by simp) rfl
  have lw := ((later1 w (.cells x.cells.toArray 26)).alloc (by simp) (.cells (ioC true p v).toArray 28)).alloc (by simp; omega) (.cells (didC zK 0 0).toArray 37)
  clear hx
  have d0 : (p == 0) = false := beq_false_of_ne h0
  have d1 : (p == 1) = false := beq_false_of_ne h1
  go_enter Try.func13, Try.ntmps13
  go_upto_region 1 with fail
  obtain ⟨u0, hu⟩ : ∃ u0, ((w.alloc (.cells x.cells.toArray 26)).alloc (.cells (ioC true p v).toArray 28)).alloc (.cells (didC zK 0 0).toArray 37) = u0 := ⟨_, rfl⟩
  rw [hu] at b3 b5 b6 lw
  have hu2 : ((w.alloc (.cells x.cells.toArray 26)).alloc (.cells #[.bool true, .int .i64 p, .int .u32 v] 28)).alloc (.cells #[.int .i64 0, .int .u32 0, .int .u32 0, .int .u32 0, .int .u32 0, .int .u32 0, .int .u32 0, .int .u32 0, .int .u32 0, .int .i64 0, .int .i64 0, .int .i64 0, .int .i64 0, .int .i64 0, .int .u32 0, .int .i64 0] 37) = u0 := hu
  rw [hu2]
  clear hu hu2
  have e0 := b5.cell (j := 0) (v := .bool true) rfl
  have e1 := b5.cell (j := 1) (v := .int .i64 p) rfl
  go_wp2_with (first
    | ((with_reducible refine wpList_load_blk (o := ⟨some 35, .load 26 (.tmp 3), _, _, _, none⟩) rfl _ _ rfl w.heap.size 26 x.cells _ ?_ ?_ Try.underlying26 rfl (ctl_sz _) ?_); rfl; exact b3)
    | ((with_reducible refine wpList_bld (o := ⟨some 36, .build 37 #[(0, .tmp 35), (2, .const (.int .i64 5))], _, _, _, none⟩) rfl _ #[(0, .tmp 35), (2, .const (.int .i64 5))] #[(0, .agg x.cells.toArray), (2, .int .i64 5)] (didC x 0 5).toArray rfl ?_ (run_de x 5 _) ?_); rfl)
    | ((with_reducible refine wpList_store_abs (o := ⟨none, .store 37 (.tmp 6) (.tmp 36), _, _, _, none⟩) rfl _ _ _ rfl (w.heap.size + 1 + 1) 37 (didC zK 0 0) (didC x 0 5) ?_ ?_ ?_ ?_ ?_ ?_ ?_); rfl; rfl; exact b6; exact did_sz _ _ _; rfl; exact did_one _ _ _; intro w9 b9 o9))
  exact bodyPost_ret (did_ret Try.results13 _ _ (w.heap.size + 1 + 1) x 0 5 rfl b9) rfl ⟨rfl, Below.only lw o9 (by omega)⟩
set_option maxRecDepth 100000 in
set_option maxHeartbeats 1000000 in
theorem rport_out (x : Ctl) (k : Nat) (p : Int) (v : Int) (w : World) (hx : x.Ok) (hw : x.wf) (hk : (k : Int) < x.n) (hv : Tm.isE v) : Calls Try.prog 13 #[.agg x.cells.toArray, .int .i64 (k : Int), .agg #[.bool false, .int .i64 p, .int .u32 v]] w fun e w' => e = .returned (.agg (didC (x.out k p v) 0 (pErr false p)).toArray) ∧ Later w w' := by
  have hn4 := hx.n4
  have h4 : k < 4 := by omega
  have hk4 : (k : Int) < 4 := by omega
  have hk0 : (0 : Int) ≤ k := by omega
  have KO := Lib.hid fun w' => rout_any x k p v w' hx hw hk hv
  have b3 := ((Blk.new w 26 x.cells.toArray x.cells rfl).alloc (.cells (ioC false p v).toArray 28)).alloc (.cells (didC zK 0 0).toArray 37)
  have b5 := (Blk.new' (w.alloc (.cells x.cells.toArray 26)) (w.heap.size + 1) 28 (ioC false p v).toArray (ioC false p v) (by simp) rfl).alloc (.cells (didC zK 0 0).toArray 37)
  have b6 := Blk.new' ((w.alloc (.cells x.cells.toArray 26)).alloc (.cells (ioC false p v).toArray 28)) (w.heap.size + 1 + 1) 37 (didC zK 0 0).toArray (didC zK 0 0) (by simp) rfl
  have lw := ((later1 w (.cells x.cells.toArray 26)).alloc (by simp) (.cells (ioC false p v).toArray 28)).alloc (by simp; omega) (.cells (didC zK 0 0).toArray 37)
  clear hx hw
  obtain ⟨y, hy⟩ : ∃ y, y = x.out k p v := ⟨_, rfl⟩
  obtain ⟨q, hq⟩ : ∃ q, q = pErr false p := ⟨_, rfl⟩
  rw [← hy, ← hq] at KO ⊢
  clear hy hq
  have w1 := wraps_i64 v hv.1 (by have := hv.2; omega)
  clear hv
  go_enter Try.func13, Try.ntmps13
  go_upto_region 1 with fail
  obtain ⟨u0, hu⟩ : ∃ u0, ((w.alloc (.cells x.cells.toArray 26)).alloc (.cells (ioC false p v).toArray 28)).alloc (.cells (didC zK 0 0).toArray 37) = u0 := ⟨_, rfl⟩
  rw [hu] at b3 b5 b6 lw
  have hu2 : ((w.alloc (.cells x.cells.toArray 26)).alloc (.cells #[.bool false, .int .i64 p, .int .u32 v] 28)).alloc (.cells #[.int .i64 0, .int .u32 0, .int .u32 0, .int .u32 0, .int .u32 0, .int .u32 0, .int .u32 0, .int .u32 0, .int .u32 0, .int .i64 0, .int .i64 0, .int .i64 0, .int .i64 0, .int .i64 0, .int .u32 0, .int .i64 0] 37) = u0 := hu
  rw [hu2]
  clear hu hu2
  have e0 := b5.cell (j := 0) (v := .bool false) rfl
  have e1 := b5.cell (j := 1) (v := .int .i64 p) rfl
  have e2 := b5.cell (j := 2) (v := .int .u32 v) rfl
  go_wp2_with (first
    | ((with_reducible refine wpList_load_blk (o := ⟨some 10, .load 26 (.tmp 3), _, _, _, none⟩) rfl _ _ rfl w.heap.size 26 x.cells _ ?_ ?_ Try.underlying26 rfl (ctl_sz _) ?_); rfl; exact b3)
    | (go_at_call 30; clear e0 e1 e2; (with_reducible refine (KO.out _).mono ?_); rintro e w2 ⟨rfl, l1⟩; replace b6 := b6.keep l1; replace lw := Later.trans_ lw l1)
    | ((with_reducible refine wpList_store_abs (o := ⟨none, .store 37 (.tmp 6) (.tmp 17), _, _, _, none⟩) rfl _ _ _ rfl (w.heap.size + 1 + 1) 37 (didC zK 0 0) (didC y 0 q) ?_ ?_ ?_ ?_ ?_ ?_ ?_); rfl; rfl; exact b6; exact did_sz _ _ _; rfl; exact did_one _ _ _; intro w9 b9 o9))
  exact bodyPost_ret (did_ret Try.results13 _ _ (w.heap.size + 1 + 1) y 0 q rfl b9) rfl ⟨rfl, Below.only lw o9 (by omega)⟩
/-- The reference's Port. -/
theorem rport_any (x : Ctl) (k : Nat) (inn : Bool) (p v : Int) (w : World) (hx : x.Ok) (hw : x.wf) (hk : (k : Int) < x.n) (hv : Tm.isE v) :
    Calls Try.prog 13 #[.agg x.cells.toArray, .int .i64 (k : Int), .agg #[.bool inn, .int .i64 p, .int .u32 v]] w fun e w' => e = .returned (.agg (didC (x.port k inn p v) (x.val k inn p) (pErr inn p)).toArray) ∧ Later w w' := by
  cases inn with
  | true =>
    by_cases h0 : p = 0
    · subst h0; exact rport_in0 x k v w hx hw hk hv
    by_cases h1 : p = 1
    · subst h1; exact rport_in1 x k v w hx hw hk hv
    have h := rport_inX x k p v w hx hw hk hv h0 h1
    have e1 : x.val k true p = 0 := by unfold Ctl.val; simp [h0, h1]
    have e2 : pErr true p = 5 := by unfold pErr; simp [h0, h1]
    rw [e1, e2]
    exact h
  | false => exact rport_out x k p v w hx hw hk hv
/-- An act: whether a line is raised, at which processor, which; what is asked. -/
structure Ac where
  (rs : Bool)
  (cp ln : Int)
  (inn : Bool)
  (p v : Int)
def Ac.cells (a : Ac) : List Value := [.bool a.rs, .int .u8 a.cp, .int .i64 a.ln, .bool a.inn, .int .i64 a.p, .int .u32 a.v]
structure Ac.wf (a : Ac) : Prop where
  cp : 0 ≤ a.cp ∧ a.cp ≤ 255
  ln : i64 a.ln
  p : i64 a.p
  v : Tm.isE a.v
instance : Inhabited Ac := ⟨⟨false, 0, 0, false, 0, 0⟩⟩
theorem ac_sz (a : Ac) : (Try.prog.info? 49).map (·.size) = some a.cells.length := by
  show _ = some 6
  kernel_rfl
theorem ac_one (a : Ac) : ∀ v ∈ a.cells, v.oneCell' = true := by
  intro v hv
  simp only [Ac.cells, List.mem_cons, List.not_mem_nil, or_false] at hv
  rcases hv with rfl | rfl | rfl | rfl | rfl | rfl <;> rfl
section
variable {H : Type} {enc : TypeId × Value → H} {W : World} {r : Reach} {b0 : Nat} {v : Value} {d : DataW H} {p : List MemPlace}
theorem io_trod {n : Nat} {cs : List Value} {y : DataW H × List MemPlace} (h : DataW.trod enc Try.prog W 0 (fun _ => true) true n 28 cs = some y) : ∃ (inn : Bool) (p v : Int), cs = [.bool inn, .int .i64 p, .int .u32 v] ∧ i64 p ∧ Tm.isE v := by
  obtain ⟨y0, y1, y2, m, _, hl, k0, k1, k2⟩ := Deep.trod_struct3 Try.underlying28 h
  rw [show Try.prog.cellsOf 4 = 1 by kernel_rfl] at k0
  rw [show Try.prog.cellsOf 3 = 1 by kernel_rfl] at k1
  rw [show Try.prog.cellsOf 22 = 1 by kernel_rfl] at k2
  rw [show Try.prog.cellsOf 28 = 3 by kernel_rfl] at hl
  obtain ⟨z0, e0, _⟩ := DataW.trod_bool Try.underlying4 k0
  obtain ⟨z1, e1, _, w1⟩ := DataW.trod_int Try.underlying3 k1
  obtain ⟨z2, e2, _, w2⟩ := DataW.trod_int Try.underlying22 k2
  have a0 : IntKind.i64.min = -9223372036854775808 := rfl
  have a1 : IntKind.i64.max = 9223372036854775807 := rfl
  have a2 : IntKind.u32.min = 0 := rfl
  have a3 : IntKind.u32.max = 4294967295 := rfl
  simp only [Lit.wf, Bool.and_eq_true, decide_eq_true_eq] at w1 w2
  refine ⟨z0, z1, z2, ?_, ⟨by omega, by omega⟩, ⟨by omega, by omega⟩⟩
  match cs, hl with
  | [a, b, c], _ =>
    simp at e0 e1 e2
    rw [e0, e1, e2]
theorem io_open (hv : Value.okWide Try.prog W r b0 28 v) (h : DataW.Trod enc Try.prog W 0 (fun _ => true) true 28 v d p) : ∃ (inn : Bool) (q u : Int), v = .agg #[.bool inn, .int .i64 q, .int .u32 u] ∧ i64 q ∧ Tm.isE u := by
  obtain ⟨cs, rfl, hsz⟩ := okWide_struct Try.underlying28 hv
  obtain ⟨fuel, hf⟩ := h
  obtain ⟨inn, q, u, h3, h4⟩ := io_trod hf
  refine ⟨inn, q, u, ?_, h4⟩
  have h5 : cs.toList = [.bool inn, .int .i64 q, .int .u32 u] := h3
  rw [← h5]
theorem ac_trod0 {fs : Array Field} {fuel : Nat} {l : List Value} {y : DataW H × List MemPlace} (ht : Try.prog.underlying 49 = some (.struct fs)) (hf : fs.toList.map (fun f => (f.type, f.offset)) = [(4, 0), (5, 1), (3, 2), (28, 3)]) (h : DataW.trod enc Try.prog W 0 (fun _ => true) true fuel 49 l = some y) : ∃ a : Ac, l = a.cells ∧ a.wf := by
  obtain ⟨xs, n, _, _, hl, hlen, hall⟩ := DataW.trod_struct ht h
  have hn : fs.size = 4 := by simpa using congrArg List.length hf
  have hl6 : l.length = 6 := by
    rw [hl]; kernel_rfl
  have fld : ∀ i, i < 4 → ∃ tt oo y, [(4, 0), (5, 1), (3, 2), (28, 3)][i]? = some (tt, oo) ∧ DataW.trod enc Try.prog W 0 (fun _ => true) true n tt ((l.drop oo).take (Try.prog.cellsOf tt)) = some y := by
    intro i hi7
    have h1 : (fs.toList.map (fun f => (f.type, f.offset)))[i]? = some ((fs[i]'(by omega)).type, (fs[i]'(by omega)).offset) := by simp [hn, hi7]
    have h2 := hall i (fs[i]'(by omega)) (by simp [hn, hi7])
    obtain ⟨b, hb⟩ : ∃ b, xs[i]? = some b := ⟨xs[i]'(by omega), List.getElem?_eq_getElem (by omega)⟩
    rw [hb] at h2
    rw [hf] at h1
    exact ⟨_, _, b, h1, h2⟩
  obtain ⟨t0, o0, y0, e0, f0⟩ := fld 0 (by omega)
  obtain ⟨t1, o1, y1, e1, f1⟩ := fld 1 (by omega)
  obtain ⟨t2, o2, y2, e2, f2⟩ := fld 2 (by omega)
  obtain ⟨t3, o3, y3, e3, f3⟩ := fld 3 (by omega)
  obtain ⟨rfl, rfl⟩ : 4 = t0 ∧ 0 = o0 := by simpa using e0
  obtain ⟨rfl, rfl⟩ : 5 = t1 ∧ 1 = o1 := by simpa using e1
  obtain ⟨rfl, rfl⟩ : 3 = t2 ∧ 2 = o2 := by simpa using e2
  obtain ⟨rfl, rfl⟩ : 28 = t3 ∧ 3 = o3 := by simpa using e3
  rw [show Try.prog.cellsOf 4 = 1 by kernel_rfl] at f0
  rw [show Try.prog.cellsOf 5 = 1 by kernel_rfl] at f1
  rw [show Try.prog.cellsOf 3 = 1 by kernel_rfl] at f2
  rw [show Try.prog.cellsOf 28 = 3 by kernel_rfl] at f3
  obtain ⟨z0, g0, _⟩ := DataW.trod_bool Try.underlying4 f0
  obtain ⟨z1, g1, _, w1⟩ := DataW.trod_int Try.underlying5 f1
  obtain ⟨z2, g2, _, w2⟩ := DataW.trod_int Try.underlying3 f2
  obtain ⟨z3, z4, z5, g3, w3, w4⟩ := io_trod f3
  have a0 : IntKind.i64.min = -9223372036854775808 := rfl
  have a1 : IntKind.i64.max = 9223372036854775807 := rfl
  have a2 : IntKind.u8.min = 0 := rfl
  have a3 : IntKind.u8.max = 255 := rfl
  simp only [Lit.wf, Bool.and_eq_true, decide_eq_true_eq] at w1 w2
  refine ⟨⟨z0, z1, z2, z3, z4, z5⟩, ?_, ⟨(show 0 ≤ z1 ∧ z1 ≤ 255 by omega), (show i64 z2 from ⟨by omega, by omega⟩), w3, w4⟩⟩
  match l, hl6 with
  | [a, b, c, d, e, f], _ =>
    simp at g0 g1 g2 g3
    obtain ⟨g3, g4, g5⟩ := g3
    rw [g0, g1, g2, g3, g4, g5]
    rfl
theorem ac_trod {fuel : Nat} {l : List Value} {y : DataW H × List MemPlace} (h : DataW.trod enc Try.prog W 0 (fun _ => true) true fuel 49 l = some y) : ∃ a : Ac, l = a.cells ∧ a.wf := ac_trod0 Try.underlying49 rfl h
theorem act_open (hv : Value.okWide Try.prog W r b0 49 v) (h : DataW.Trod enc Try.prog W 0 (fun _ => true) true 49 v d p) : ∃ a : Ac, v = .agg a.cells.toArray ∧ a.wf := by
  obtain ⟨cs, rfl, hsz⟩ := okWide_struct Try.underlying49 hv
  obtain ⟨fuel, hf⟩ := h
  obtain ⟨a, h3, h4⟩ := ac_trod hf
  refine ⟨a, ?_, h4⟩
  have h5 : cs.toList = a.cells := h3
  rw [← h5]
def Ax (l : List Ac) : List Value := l.flatMap Ac.cells
theorem Ax_len (l : List Ac) : (Ax l).length = l.length * 6 := by
  induction l with
  | nil => rfl
  | cons w r ih =>
    show (w.cells ++ Ax r).length = _
    rw [List.length_append, ih]
    simp [Ac.cells]
    omega
theorem Ax_at : ∀ (l : List Ac) (i : Nat) (hi : i < l.length) (j : Nat), j < 6 → (Ax l)[i * 6 + j]? = (l[i].cells)[j]? := by
  intro l
  induction l with
  | nil => intro i hi; simp at hi
  | cons w r ih =>
    intro i hi j hj
    show (w.cells ++ Ax r)[i * 6 + j]? = _
    cases i with
    | zero => rw [Nat.zero_mul, Nat.zero_add, List.getElem?_append_left (by simpa [Ac.cells] using hj)]; rfl
    | succ i =>
      rw [List.getElem?_append_right (by simp [Ac.cells]; omega), show (i + 1) * 6 + j - (w.cells).length = i * 6 + j by simp [Ac.cells]; omega]
      exact ih i (by simpa using hi) j hj
theorem acts_open (hv : Value.okWide Try.prog W r b0 47 v) (h : DataW.Trod enc Try.prog W 0 (fun _ => true) true 47 v d p) : ∃ A n c l, v = .slice A n c ∧ n ≤ c ∧ c ≤ maxLen ∧ Sl W 6 A n (Ax l) ∧ l.length = n ∧ ∀ a ∈ l, a.wf := by
  obtain ⟨a0, len, cap, rfl⟩ := okWide_slice Try.underlying47 hv
  obtain ⟨fuel, hf⟩ := h
  have hct : Try.prog.cellsOf 49 = 6 := by kernel_rfl
  rcases Deep.open_slice Try.underlying47 hf with ⟨hcs, hx⟩ | ⟨a, len', cap', m, n, D, Pl, hcs, _, hl, hm, hmm, hx, hel⟩
  · simp [Value.cells] at hcs
    obtain ⟨rfl, rfl, rfl⟩ := hcs
    exact ⟨none, 0, 0, [], rfl, Nat.le_refl _, Nat.zero_le _, Sl.nil _ _ _, rfl, fun x hx => by cases hx⟩
  · simp [Value.cells] at hcs
    obtain ⟨rfl, rfl, rfl⟩ := hcs
    simp only [if_true] at hmm
    have each : ∀ i, i < len → ∃ w : Ac, w.wf ∧ ∀ j, j < 6 → W.cell? ((a.add (i * 6)).add j) = w.cells[j]? := by
      intro i hi
      obtain ⟨cs', h3, h4⟩ := hel i (by omega)
      rw [hct] at h3
      obtain ⟨w, rfl, h5⟩ := ac_trod h4
      exact ⟨w, h5, (cells_at h3).2⟩
    obtain ⟨f, hfl⟩ := Deep.choose_lt each
    refine ⟨some a, len, cap, (List.range len).map f, rfl, hl, hm, ⟨by rw [Ax_len]; simp, fun hn => ⟨a, rfl, ?_, ?_⟩⟩, by simp, fun w hw => ?_⟩
    · have h3 := (hfl 0 hn).2 0 (by omega)
      have h4 := World.block_lt_of_cell? W _ (h3.trans (show ((f 0).cells)[0]? = some _ from rfl))
      rwa [addr_add_block, addr_add_block] at h4
    · intro j y hy
      have hj : j < len * 6 := by
        rcases Nat.lt_or_ge j (len * 6) with h | h
        · exact h
        · rw [List.getElem?_eq_none (by rw [Ax_len]; simpa using h)] at hy; cases hy
      have h3 := (hfl (j / 6) (by omega)).2 (j % 6) (by omega)
      rw [addr_add_add, show j / 6 * 6 + j % 6 = j by omega] at h3
      rw [h3]
      have h4 := Ax_at ((List.range len).map f) (j / 6) (by simp; omega) (j % 6) (by omega)
      rw [show j / 6 * 6 + j % 6 = j by omega] at h4
      rw [← hy, h4]
      simp
    · obtain ⟨i, hi, rfl⟩ := List.mem_map.1 hw
      exact (hfl i (by simpa using hi)).1
end
/-- What an act makes of a control, at processor k. -/
def actC (x : Ctl) (a : Ac) (k : Nat) : Ctl := if a.rs then x.raise a.ln k else x.port k a.inn a.p a.v
set_option maxRecDepth 100000 in
set_option maxHeartbeats 2000000 in
theorem act_any (x : Ctl) (a : Ac) (k : Nat) (w : World) (hx : x.Ok) (hw : x.wf) (ha : a.wf) (hk : k = (a.cp % x.n).toNat) : Calls Try.prog 22 #[.agg x.cells.toArray, .agg a.cells.toArray] w fun e w' => e = .returned (.tuple #[.agg (actC x a k).cells.toArray, .int .i64 (k : Int)]) ∧ Later w w' := by
  have hn1 := hx.n1
  have hn4 := hx.n4
  have hnz : ¬ x.n = 0 := by omega
  have hw8 : IntKind.i64.wrap a.cp = a.cp := by have := ha.cp; rw [IntKind.wrap_i64]; omega
  have hmd : a.cp.tmod x.n = (k : Int) := by
    rw [hk, Int.tmod_eq_emod_of_nonneg ha.cp.1, Int.toNat_of_nonneg (Int.emod_nonneg _ hnz)]
  have hkn : (k : Int) < x.n := by
    rw [hk, Int.toNat_of_nonneg (Int.emod_nonneg _ hnz)]; exact Int.emod_lt_of_pos _ (by omega)
  have KR := Lib.hid fun w' => raise_any x a.ln k w' hx hw hkn
  have KP := Lib.hid fun w' => port_any x k a.inn a.p a.v w' hx hw hkn ha.v
  have b2 := ((Blk.new w 26 x.cells.toArray x.cells rfl).alloc (.cells a.cells.toArray 49)).alloc (.cells zK.cells.toArray 26)
  have b3 := (Blk.new' (w.alloc (.cells x.cells.toArray 26)) (w.heap.size + 1) 49 a.cells.toArray a.cells (by simp) rfl).alloc (.cells zK.cells.toArray 26)
  have b4 := Blk.new' ((w.alloc (.cells x.cells.toArray 26)).alloc (.cells a.cells.toArray 49)) (w.heap.size + 1 + 1) 26 zK.cells.toArray zK.cells (by simp) rfl
  have lw := ((later1 w (.cells x.cells.toArray 26)).alloc (by simp) (.cells a.cells.toArray 49)).alloc (by simp; omega) (.cells zK.cells.toArray 26)
  obtain ⟨y, hy⟩ : ∃ y, y = actC x a k := ⟨_, rfl⟩
  rw [← hy]
  unfold actC at hy
  have dio : (a.cells.drop 3).take 3 = [.bool a.inn, .int .i64 a.p, .int .u32 a.v] := rfl
  clear hk hx hw ha
  cases hr : a.rs with
  | true =>
    rw [if_pos hr] at hy
    rw [← hy] at KR
    clear hy KP dio
    go_enter Try.func22, Try.ntmps22
    go_upto_region 1 with fail
    obtain ⟨u0, hu⟩ : ∃ u0, ((w.alloc (.cells x.cells.toArray 26)).alloc (.cells a.cells.toArray 49)).alloc (.cells zK.cells.toArray 26) = u0 := ⟨_, rfl⟩
    rw [hu] at b2 b3 b4 lw
    have hu2 : ((w.alloc (.cells x.cells.toArray 26)).alloc (.cells a.cells.toArray 49)).alloc (.cells #[.int .i64 0, .int .u32 0, .int .u32 0, .int .u32 0, .int .u32 0, .int .u32 0, .int .u32 0, .int .u32 0, .int .u32 0, .int .i64 0, .int .i64 0, .int .i64 0, .int .i64 0, .int .i64 0] 26) = u0 := hu
    rw [hu2]
    clear hu hu2
    have e0 := b3.cell (j := 0) (v := .bool true) (by rw [← hr]; rfl)
    have e1 := b3.cell (j := 1) (v := .int .u8 a.cp) rfl
    have en := b2.cell (ctl_n x)
    have e2 := b3.cell (j := 2) (v := .int .i64 a.ln) rfl
    clear hr
    go_wp2_with (first
      | ((with_reducible refine wpList_load_blk (o := ⟨some 18, .load 26 (.tmp 2), _, _, _, none⟩) rfl _ _ rfl w.heap.size 26 x.cells _ ?_ ?_ Try.underlying26 rfl (ctl_sz _) ?_); rfl; exact b2)
      | (go_at_call 14; clear e0 e1 e2 en; (with_reducible refine (KR.out _).mono ?_); rintro e w1 ⟨rfl, l1⟩; replace b4 := b4.keep l1; replace lw := Later.trans_ lw l1)
      | ((with_reducible refine wpList_store_abs (o := ⟨none, .store 26 (.tmp 4) (.tmp 22), _, _, _, none⟩) rfl _ _ _ rfl (w.heap.size + 1 + 1) 26 zK.cells y.cells ?_ ?_ ?_ ?_ ?_ ?_ ?_); rfl; rfl; exact b4; exact ctl_sz _; rfl; exact ctl_one _; intro w9 b9 o9))
    exact bodyPost_ret (ctl_ret2 Try.results22 _ _ (w.heap.size + 1 + 1) y (.int .i64 (k : Int)) rfl rfl b9) rfl ⟨rfl, Below.only lw o9 (by omega)⟩
  | false =>
    rw [hr, if_neg (by decide)] at hy
    rw [← hy] at KP
    clear hy KR
    go_enter Try.func22, Try.ntmps22
    go_upto_region 1 with fail
    obtain ⟨u0, hu⟩ : ∃ u0, ((w.alloc (.cells x.cells.toArray 26)).alloc (.cells a.cells.toArray 49)).alloc (.cells zK.cells.toArray 26) = u0 := ⟨_, rfl⟩
    rw [hu] at b2 b3 b4 lw
    have hu2 : ((w.alloc (.cells x.cells.toArray 26)).alloc (.cells a.cells.toArray 49)).alloc (.cells #[.int .i64 0, .int .u32 0, .int .u32 0, .int .u32 0, .int .u32 0, .int .u32 0, .int .u32 0, .int .u32 0, .int .u32 0, .int .i64 0, .int .i64 0, .int .i64 0, .int .i64 0, .int .i64 0] 26) = u0 := hu
    rw [hu2]
    clear hu hu2
    have e0 := b3.cell (j := 0) (v := .bool false) (by rw [← hr]; rfl)
    have e1 := b3.cell (j := 1) (v := .int .u8 a.cp) rfl
    have en := b2.cell (ctl_n x)
    clear hr
    go_wp2_with (first
      | ((with_reducible refine wpList_load_blk (o := ⟨some 25, .load 26 (.tmp 2), _, _, _, none⟩) rfl _ _ rfl w.heap.size 26 x.cells _ ?_ ?_ Try.underlying26 rfl (ctl_sz _) ?_); rfl; exact b2)
      | ((with_reducible refine wpList_load_at (o := ⟨some 28, .load 28 (.tmp 27), _, _, _, none⟩) rfl _ _ rfl (w.heap.size + 1) 3 3 49 a.cells [.bool a.inn, .int .i64 a.p, .int .u32 a.v] _ ?_ ?_ dio Try.underlying28 rfl ?_ ?_); rfl; exact b3; exact io_sz a.inn a.p a.v)
      | (go_at_call 12; clear e0 e1 en; (with_reducible refine (KP.out _).mono ?_); rintro e w1 ⟨rfl, l1⟩; replace b4 := b4.keep l1; replace lw := Later.trans_ lw l1; have hlt : w.heap.size + 1 + 1 < w1.heap.size := b4.lt)
      | ((with_reducible refine wpList_store_abs (o := ⟨none, .store 26 (.tmp 7) (.tmp 30), _, _, _, none⟩) rfl _ _ _ rfl w1.heap.size 26 zK.cells y.cells ?_ ?_ ?_ ?_ ?_ ?_ ?_); rfl; rfl; exact (Blk.new _ _ _ _ rfl); exact ctl_sz _; rfl; exact ctl_one _; intro w2 b7 o2; replace b4 := (b4.alloc (.cells zK.cells.toArray 26)).only o2 (Nat.ne_of_lt b4.lt); replace lw := Below.only (lw.alloc lw.size (.cells zK.cells.toArray 26)) o2 lw.size)
      | ((with_reducible refine wpList_load_blk (o := ⟨some 33, .load 26 (.tmp 7), _, _, _, none⟩) rfl _ _ rfl w1.heap.size 26 y.cells _ ?_ ?_ Try.underlying26 rfl (ctl_sz _) ?_); rfl; exact b7)
      | ((with_reducible refine wpList_store_abs (o := ⟨none, .store 26 (.tmp 4) (.tmp 33), _, _, _, none⟩) rfl _ _ _ rfl (w.heap.size + 1 + 1) 26 zK.cells y.cells ?_ ?_ ?_ ?_ ?_ ?_ ?_); rfl; rfl; exact b4; exact ctl_sz _; rfl; exact ctl_one _; intro w9 b9 o9))
    exact bodyPost_ret (ctl_ret2 Try.results22 _ _ (w.heap.size + 1 + 1) y (.int .i64 (k : Int)) rfl rfl b9) rfl ⟨rfl, Below.only lw o9 (by omega)⟩
end Go.Proofs.Ytkpigonlnabmdab
