/-
  A CONTROL: the reference's out, Port.
-/
import Derived.Test.YtkpigonlnabmdabLinH
import Derived.Deep.RegionHeld
namespace Go.Proofs.Ytkpigonlnabmdab
open Go.RowKit Go.ChangeShapes Go.WideShapes Go.ChangeAt

/-- A control, a value, an error. -/
def didC (y : Ctl) (v e : Int) : List Value := y.cells ++ [.int .u32 v, .int .i64 e]
theorem did_sz (y : Ctl) (v e : Int) : (Try.prog.info? 37).map (·.size) = some (didC y v e).length := by
  show _ = some 16
  kernel_rfl
theorem did_one (y : Ctl) (v e : Int) : ∀ u ∈ didC y v e, u.oneCell' = true := by
  intro u hu
  rcases List.mem_append.1 hu with h | h
  · exact ctl_one y u h
  · simp only [List.mem_cons, List.not_mem_nil, or_false] at h
    rcases h with rfl | rfl <;> rfl
theorem did_ret {fn : Func} {p : Tmp} (h : fn.results = #[.cell p 37]) (tmps : Array Value) (w : World) (B : Nat) (y : Ctl) (v e : Int) (hp : tmps.getD p undef = .pointer (some ⟨B, 0, none⟩)) (hb : Blk w B 37 (didC y v e)) :
    (results fn tmps).run Try.prog w = .ok (.agg (didC y v e).toArray) w :=
  results_blk h tmps w B 37 _ _ hp hb Try.underlying37 rfl (did_sz _ _ _)
theorem built_d (y : Ctl) : Try.prog.built 37 [(0, .agg y.cells.toArray)] = some (didC y 0 0).toArray := by kernel_rfl
theorem built_de (y : Ctl) (e : Int) : Try.prog.built 37 [(0, .agg y.cells.toArray), (2, .int .i64 e)] = some (didC y 0 e).toArray := by kernel_rfl
theorem built_dv (y : Ctl) (v : Int) : Try.prog.built 37 [(0, .agg y.cells.toArray), (1, .int .u32 v)] = some (didC y v 0).toArray := by kernel_rfl
theorem built_e (e : Int) : Try.prog.built 37 [(2, .int .i64 e)] = some (didC zK 0 e).toArray := by kernel_rfl
theorem run_d (y : Ctl) (w : World) : (Instr.build 37 #[(0, .agg y.cells.toArray)]).run Try.prog w = .ok (.agg (didC y 0 0).toArray) w := run_build w _ _ _ (built_d y)
theorem run_de (y : Ctl) (e : Int) (w : World) : (Instr.build 37 #[(0, .agg y.cells.toArray), (2, .int .i64 e)]).run Try.prog w = .ok (.agg (didC y 0 e).toArray) w := run_build w _ _ _ (built_de y e)
theorem run_dv (y : Ctl) (v : Int) (w : World) : (Instr.build 37 #[(0, .agg y.cells.toArray), (1, .int .u32 v)]).run Try.prog w = .ok (.agg (didC y v 0).toArray) w := run_build w _ _ _ (built_dv y v)
theorem run_e (e : Int) (w : World) : (Instr.build 37 #[(2, .int .i64 e)]).run Try.prog w = .ok (.agg (didC zK 0 e).toArray) w := run_build w _ _ _ (built_e e)
set_option maxRecDepth 100000 in
set_option maxHeartbeats 1000000 in
theorem rout_0 (x : Ctl) (k : Nat) (v : Int) (w : World) (hx : x.Ok) (_ : x.wf) (hk : (k : Int) < x.n) (hv : Tm.isE v) : Calls Try.prog 30 #[.agg x.cells.toArray, .int .i64 (k : Int), .int .i64 0, .int .i64 v] w fun e w' => e = .returned (.agg (didC (x.out k 0 v) 0 0).toArray) ∧ Later w w' := by
  have hn4 := hx.n4
  have h4 : k < 4 := by omega
  have hk4 : (k : Int) < 4 := by omega
  have hk0 : (0 : Int) ≤ k := by omega
  have hv0 := hv.1
  have hv2 := hv.2
  have b4 := (Blk.new w 26 x.cells.toArray x.cells rfl).alloc (.cells (didC zK 0 0).toArray 37)
  have b8 := Blk.new' (w.alloc (.cells x.cells.toArray 26)) (w.heap.size + 1) 37 (didC zK 0 0).toArray (didC zK 0 0) (by simp) rfl
  have lw := (later1 w (.cells x.cells.toArray 26)).alloc (by simp) (.cells (didC zK 0 0).toArray 37)
  have hres : x.out k 0 v = { x with m := upd x.m k (v % 32) } := rfl
  rw [hres]
  have t1 : v.tmod 32 = v % 32 := Int.tmod_eq_emod_of_nonneg hv0
  have t2 : IntKind.u32.wrap (v % 32) = v % 32 := by rw [IntKind.wrap_u32]; omega
  have t3 : v % 32 % 4294967296 = v % 32 := by omega
  clear hres hx hv
  go_enter Try.func30, Try.ntmps30
  go_upto_region 1 with fail
  obtain ⟨u0, hu⟩ : ∃ u0, (w.alloc (.cells x.cells.toArray 26)).alloc (.cells (didC zK 0 0).toArray 37) = u0 := ⟨_, rfl⟩
  rw [hu] at b4 b8 lw
  have hu2 : (w.alloc (.cells x.cells.toArray 26)).alloc (.cells #[.int .i64 0, .int .u32 0, .int .u32 0, .int .u32 0, .int .u32 0, .int .u32 0, .int .u32 0, .int .u32 0, .int .u32 0, .int .i64 0, .int .i64 0, .int .i64 0, .int .i64 0, .int .i64 0, .int .u32 0, .int .i64 0] 37) = u0 := hu
  rw [hu2]
  clear hu hu2
  have e1 := b4.cell (ctl_m x h4)
  have f1 := b4.frz (5 + k)
  go_upto_region 14 with fail
  clear e1 f1
  obtain ⟨u2, hu2⟩ : ∃ u2, u2 = u0.setCell ⟨w.heap.size, 5 + k, none⟩ (.int .u32 (v % 32)) := ⟨_, rfl⟩
  rw [← hu2]
  have b4n : Blk u2 w.heap.size 26 ({ x with m := upd x.m k (v % 32) } : Ctl).cells := by rw [hu2, ← set_m x h4]; exact b4.set (5 + k) (.int .u32 (v % 32))
  replace b8 : Blk u2 (w.heap.size + 1) 37 (didC zK 0 0) := by rw [hu2]; exact b8.set_other ⟨w.heap.size, 5 + k, none⟩ (.int .u32 (v % 32)) (by first | (simp; done) | (simp; omega))
  replace lw : Later w u2 := by rw [hu2]; exact lw.setCell (p := ⟨w.heap.size, 5 + k, none⟩) (Nat.le_refl _) (.int .u32 (v % 32))
  clear hu2 b4
  have b4 := b4n
  clear b4n
  obtain ⟨Y, hY⟩ : ∃ Y : Ctl, Y = { x with m := upd x.m k (v % 32) } := ⟨_, rfl⟩
  have HY := Lib.hid hY
  rw [← hY] at b4
  clear hY
  go_wp2_with (first
    | ((with_reducible refine wpList_load_blk (o := ⟨some 69, .load 26 (.tmp 4), _, _, _, none⟩) rfl _ _ rfl w.heap.size 26 Y.cells _ ?_ ?_ Try.underlying26 rfl (ctl_sz _) ?_); rfl; exact b4)
    | ((with_reducible refine wpList_bld (o := ⟨some 70, .build 37 #[(0, .tmp 69)], _, _, _, none⟩) rfl _ #[(0, .tmp 69)] #[(0, .agg Y.cells.toArray)] (didC Y 0 0).toArray rfl ?_ (run_d Y _) ?_); rfl)
    | ((with_reducible refine wpList_store_abs (o := ⟨none, .store 37 (.tmp 8) (.tmp 70), _, _, _, none⟩) rfl _ _ _ rfl (w.heap.size + 1) 37 (didC zK 0 0) (didC Y 0 0) ?_ ?_ ?_ ?_ ?_ ?_ ?_); rfl; rfl; exact b8; exact did_sz _ _ _; rfl; exact did_one _ _ _; intro w9 b9 o9))
  exact bodyPost_ret (did_ret Try.results30 _ _ (w.heap.size + 1) Y 0 0 rfl b9) rfl ⟨by rw [HY.out], Below.only lw o9 (by omega)⟩
set_option maxRecDepth 100000 in
set_option maxHeartbeats 1000000 in
theorem rout_2 (x : Ctl) (k : Nat) (v : Int) (w : World) (hx : x.Ok) (hw : x.wf) (hk : (k : Int) < x.n) (hv : Tm.isE v) : Calls Try.prog 30 #[.agg x.cells.toArray, .int .i64 (k : Int), .int .i64 2, .int .i64 v] w fun e w' => e = .returned (.agg (didC (x.out k 2 v) 0 0).toArray) ∧ Later w w' := by
  have hn4 := hx.n4
  have h4 : k < 4 := by omega
  have hk4 : (k : Int) < 4 := by omega
  have hk0 : (0 : Int) ≤ k := by omega
  have hv0 := hv.1
  have hv2 := hv.2
  have b4 := (Blk.new w 26 x.cells.toArray x.cells rfl).alloc (.cells (didC zK 0 0).toArray 37)
  have b8 := Blk.new' (w.alloc (.cells x.cells.toArray 26)) (w.heap.size + 1) 37 (didC zK 0 0).toArray (didC zK 0 0) (by simp) rfl
  have lw := (later1 w (.cells x.cells.toArray 26)).alloc (by simp) (.cells (didC zK 0 0).toArray 37)
  have hres : x.out k 2 v = if v < 5 then { x with r := upd x.r k (anB (x.r k) v.toNat) } else x := rfl
  rw [hres]
  clear hres
  by_cases hlt : v < 5
  · rw [if_pos hlt]
    obtain ⟨j, rfl⟩ := Int.eq_ofNat_of_zero_le hv0
    rw [Int.toNat_natCast]
    have hj : j < 5 := by omega
    have h5 := hx.r5 hw h4
    have KH := Lib.hid fun w' => rhas_any (x.r k) j w' h5 hj
    have KB := Lib.hid fun w' => rbit_any j w' hj
    have hbp := bt_pos j
    cases hb : hasB (x.r k) j with
    | true =>
      have hX : anB (x.r k) j = x.r k - bt j := by unfold anB; rw [if_pos hb]
      have hge : bt j ≤ x.r k := by
        have h9 : x.r k / bt j % 2 = 1 := of_decide_eq_true hb
        rcases Int.lt_or_le (x.r k) (bt j) with h8 | h8
        · rw [Int.ediv_eq_zero_of_lt h5.1 h8] at h9; omega
        · exact h8
      have hsum : IntKind.u32.wrap (x.r k - bt j) = x.r k - bt j := by rw [IntKind.wrap_u32]; have := h5.2; omega
      have hsum2 : (x.r k - bt j) % 4294967296 = x.r k - bt j := by have := h5.2; omega
      replace hX := Lib.hid hX
      rw [hb] at KH
      clear hb hge hbp h5 hx hw hv
      go_enter Try.func30, Try.ntmps30
      go_upto_region 1 with fail
      obtain ⟨u0, hu⟩ : ∃ u0, (w.alloc (.cells x.cells.toArray 26)).alloc (.cells (didC zK 0 0).toArray 37) = u0 := ⟨_, rfl⟩
      rw [hu] at b4 b8 lw
      have hu2 : (w.alloc (.cells x.cells.toArray 26)).alloc (.cells #[.int .i64 0, .int .u32 0, .int .u32 0, .int .u32 0, .int .u32 0, .int .u32 0, .int .u32 0, .int .u32 0, .int .u32 0, .int .i64 0, .int .i64 0, .int .i64 0, .int .i64 0, .int .i64 0, .int .u32 0, .int .i64 0] 37) = u0 := hu
      rw [hu2]
      clear hu hu2
      have e1 := b4.cell (ctl_r x h4)
      have f1 := b4.frz (1 + k)
      go_upto_region 7 with (first
        | (go_at_call 33; (with_reducible refine (KH.out _).mono ?_); rintro e w1 ⟨rfl, rfl⟩)
        )
      replace b4 := b4.drew
      replace b8 := b8.drew
      replace lw := lw.drew
      replace e1 := b4.cell (ctl_r x h4)
      replace f1 := b4.frz (1 + k)
      refine wp_region_held_drew (S := fun w' => True) (by kernel_rfl) trivial (fun hHeld => ?_)
      refine wpAnyH_take (i := 0) (oi := ⟨some 32, .move (.tmp 1), _, _, _, none⟩) (v := .int .i64 (k : Int)) rfl (by kernel_rfl) (by kernel_rfl) (by kernel_rfl) (fun _ _ _ h => h) (Or.inl ⟨by rfl, fun _ _ => rfl⟩) hHeld ?_
      simp only [Act.put, List.setIfInBounds_toArray, List.set_cons_zero, List.set_cons_succ]
      refine wpAnyH_take (i := 1) (oi := ⟨some 33, .move (.tmp 1), _, _, _, none⟩) (v := .int .i64 (k : Int)) rfl (by kernel_rfl) (by kernel_rfl) (by kernel_rfl) (fun _ _ _ h => h) (Or.inl ⟨by rfl, fun _ _ => rfl⟩) hHeld ?_
      simp only [Act.put, List.setIfInBounds_toArray, List.set_cons_zero, List.set_cons_succ]
      refine wpAnyH_take (i := 2) (oi := ⟨some 34, .fieldAddr 26 (.tmp 4) 1, _, _, _, none⟩) (v := .pointer (some ⟨w.heap.size, 1, none⟩)) rfl (by kernel_rfl) (by kernel_rfl) (by kernel_rfl) (fun _ _ _ h => h) (Or.inl ⟨by rfl, fun w _ => by go_simp⟩) hHeld ?_
      simp only [Act.put, List.setIfInBounds_toArray, List.set_cons_zero, List.set_cons_succ]
      refine wpAnyH_take (i := 3) (oi := ⟨some 35, .indexAddr 23 (.tmp 34) (.tmp 33), _, _, _, none⟩) (v := .pointer (some ⟨w.heap.size, 1 + k, none⟩)) rfl (by kernel_rfl) (by kernel_rfl) (by kernel_rfl) (fun _ _ _ h => h) (Or.inl ⟨by rfl, fun w _ => by go_simp⟩) hHeld ?_
      simp only [Act.put, List.setIfInBounds_toArray, List.set_cons_zero, List.set_cons_succ]
      refine wpAnyH_take (i := 5) (oi := ⟨some 37, .move (.tmp 3), _, _, _, none⟩) (v := .int .i64 (j : Int)) rfl (by kernel_rfl) (by kernel_rfl) (by kernel_rfl) (fun _ _ _ h => h) (Or.inl ⟨by rfl, fun _ _ => rfl⟩) hHeld ?_
      simp only [Act.put, List.setIfInBounds_toArray, List.set_cons_zero, List.set_cons_succ]
      refine wpAnyH_take (i := 8) (oi := ⟨some 40, .fieldAddr 26 (.tmp 4) 1, _, _, _, none⟩) (v := .pointer (some ⟨w.heap.size, 1, none⟩)) rfl (by kernel_rfl) (by kernel_rfl) (by kernel_rfl) (fun _ _ _ h => h) (Or.inl ⟨by rfl, fun w _ => by go_simp⟩) hHeld ?_
      simp only [Act.put, List.setIfInBounds_toArray, List.set_cons_zero, List.set_cons_succ]
      refine wpAnyH_ready (rs := [4, 6]) (by kernel_rfl) (by simp) (AllReadyH.cons (o := ⟨some 36, .load 22 (.tmp 35), _, _, _, none⟩) rfl (fun K' hK => ?_) (AllReadyH.cons (o := ⟨some 38, .call { callee := .value (.func 34), args := #[.tmp 37], argTypes := #[3] }, _, _, _, none⟩) rfl (fun K' hK => ?_) AllReadyH.nil))
      · go_simp
        refine hK.out _ _ trivial (fun hHeld => ?_)
        clear hK K'
        try simp only [Act.put, List.setIfInBounds_toArray, List.set_cons_zero, List.set_cons_succ]
        refine wpAnyH_ready (rs := [6]) (by kernel_rfl) (by simp) (AllReadyH.cons (o := ⟨some 38, .call { callee := .value (.func 34), args := #[.tmp 37], argTypes := #[3] }, _, _, _, none⟩) rfl (fun K' hK => ?_) AllReadyH.nil)
        go_simp
        refine (KB.out _).mono ?_
        rintro e v1 ⟨rfl, rfl⟩
        refine hK.out _ _ trivial (fun hHeld => ?_)
        clear hK K'
        try simp only [Act.put, List.setIfInBounds_toArray, List.set_cons_zero, List.set_cons_succ]
        refine wpAnyH_take (i := 7) (oi := ⟨some 39, .binOp .sub 22 (.tmp 36) (.tmp 38) 22, _, _, _, none⟩) (v := .int .u32 (x.r k - bt j)) rfl (by kernel_rfl) (by kernel_rfl) (by kernel_rfl) (fun _ _ _ h => h) (Or.inl ⟨by rfl, fun w _ => by go_simp⟩) hHeld ?_
        simp only [Act.put, List.setIfInBounds_toArray, List.set_cons_zero, List.set_cons_succ]
        refine wpAnyH_take (i := 9) (oi := ⟨some 41, .indexAddr 23 (.tmp 40) (.tmp 32), _, _, _, none⟩) (v := .pointer (some ⟨w.heap.size, 1 + k, none⟩)) rfl (by kernel_rfl) (by kernel_rfl) (by kernel_rfl) (fun _ _ _ h => h) (Or.inl ⟨by rfl, fun w _ => by go_simp⟩) hHeld ?_
        simp only [Act.put, List.setIfInBounds_toArray, List.set_cons_zero, List.set_cons_succ]
        refine wpAnyH_ready (rs := [10]) (by kernel_rfl) (by simp) (AllReadyH.cons (o := ⟨none, .store 22 (.tmp 41) (.tmp 39), _, _, _, none⟩) rfl (fun K' hK => ?_) AllReadyH.nil)
        go_simp
        replace b4 : Blk _ w.heap.size 26 ({ x with r := upd x.r k (x.r k - bt j) } : Ctl).cells := (by rw [← set_r x h4]; exact b4.set (1 + k) (.int .u32 (x.r k - bt j)))
        replace b8 := b8.set_other ⟨w.heap.size, 1 + k, none⟩ (.int .u32 (x.r k - bt j)) (by first | (simp; done) | (simp; omega))
        replace lw := lw.setCell (p := ⟨w.heap.size, 1 + k, none⟩) (Nat.le_refl _) (.int .u32 (x.r k - bt j))
        refine hK.out _ _ trivial (fun hHeld => ?_)
        clear hK K'
        try simp only [Act.put]
        refine wpAnyH_done (by kernel_rfl) ?_ _
        clear hHeld
        clear e1 f1
        obtain ⟨Y, hY⟩ : ∃ Y : Ctl, Y = { x with r := upd x.r k (x.r k - bt j) } := ⟨_, rfl⟩
        have HY := Lib.hid hY
        rw [← hY] at b4
        clear hY
        go_wp2_with (first
          | ((with_reducible refine wpList_load_blk (o := ⟨some 69, .load 26 (.tmp 4), _, _, _, none⟩) rfl _ _ rfl w.heap.size 26 Y.cells _ ?_ ?_ Try.underlying26 rfl (ctl_sz _) ?_); rfl; exact b4)
          | ((with_reducible refine wpList_bld (o := ⟨some 70, .build 37 #[(0, .tmp 69)], _, _, _, none⟩) rfl _ #[(0, .tmp 69)] #[(0, .agg Y.cells.toArray)] (didC Y 0 0).toArray rfl ?_ (run_d Y _) ?_); rfl)
          | ((with_reducible refine wpList_store_abs (o := ⟨none, .store 37 (.tmp 8) (.tmp 70), _, _, _, none⟩) rfl _ _ _ rfl (w.heap.size + 1) 37 (didC zK 0 0) (didC Y 0 0) ?_ ?_ ?_ ?_ ?_ ?_ ?_); rfl; rfl; exact b8; exact did_sz _ _ _; rfl; exact did_one _ _ _; intro w9 b9 o9))
        exact bodyPost_ret (did_ret Try.results30 _ _ (w.heap.size + 1) Y 0 0 rfl b9) rfl ⟨by rw [HY.out, hX.out], Below.only lw o9 (by omega)⟩
      · go_simp
        refine (KB.out _).mono ?_
        rintro e v1 ⟨rfl, rfl⟩
        refine hK.out _ _ trivial (fun hHeld => ?_)
        clear hK K'
        try simp only [Act.put, List.setIfInBounds_toArray, List.set_cons_zero, List.set_cons_succ]
        refine wpAnyH_ready (rs := [4]) (by kernel_rfl) (by simp) (AllReadyH.cons (o := ⟨some 36, .load 22 (.tmp 35), _, _, _, none⟩) rfl (fun K' hK => ?_) AllReadyH.nil)
        go_simp
        refine hK.out _ _ trivial (fun hHeld => ?_)
        clear hK K'
        try simp only [Act.put, List.setIfInBounds_toArray, List.set_cons_zero, List.set_cons_succ]
        refine wpAnyH_take (i := 7) (oi := ⟨some 39, .binOp .sub 22 (.tmp 36) (.tmp 38) 22, _, _, _, none⟩) (v := .int .u32 (x.r k - bt j)) rfl (by kernel_rfl) (by kernel_rfl) (by kernel_rfl) (fun _ _ _ h => h) (Or.inl ⟨by rfl, fun w _ => by go_simp⟩) hHeld ?_
        simp only [Act.put, List.setIfInBounds_toArray, List.set_cons_zero, List.set_cons_succ]
        refine wpAnyH_take (i := 9) (oi := ⟨some 41, .indexAddr 23 (.tmp 40) (.tmp 32), _, _, _, none⟩) (v := .pointer (some ⟨w.heap.size, 1 + k, none⟩)) rfl (by kernel_rfl) (by kernel_rfl) (by kernel_rfl) (fun _ _ _ h => h) (Or.inl ⟨by rfl, fun w _ => by go_simp⟩) hHeld ?_
        simp only [Act.put, List.setIfInBounds_toArray, List.set_cons_zero, List.set_cons_succ]
        refine wpAnyH_ready (rs := [10]) (by kernel_rfl) (by simp) (AllReadyH.cons (o := ⟨none, .store 22 (.tmp 41) (.tmp 39), _, _, _, none⟩) rfl (fun K' hK => ?_) AllReadyH.nil)
        go_simp
        replace b4 : Blk _ w.heap.size 26 ({ x with r := upd x.r k (x.r k - bt j) } : Ctl).cells := (by rw [← set_r x h4]; exact b4.set (1 + k) (.int .u32 (x.r k - bt j)))
        replace b8 := b8.set_other ⟨w.heap.size, 1 + k, none⟩ (.int .u32 (x.r k - bt j)) (by first | (simp; done) | (simp; omega))
        replace lw := lw.setCell (p := ⟨w.heap.size, 1 + k, none⟩) (Nat.le_refl _) (.int .u32 (x.r k - bt j))
        refine hK.out _ _ trivial (fun hHeld => ?_)
        clear hK K'
        try simp only [Act.put]
        refine wpAnyH_done (by kernel_rfl) ?_ _
        clear hHeld
        clear e1 f1
        obtain ⟨Y, hY⟩ : ∃ Y : Ctl, Y = { x with r := upd x.r k (x.r k - bt j) } := ⟨_, rfl⟩
        have HY := Lib.hid hY
        rw [← hY] at b4
        clear hY
        go_wp2_with (first
          | ((with_reducible refine wpList_load_blk (o := ⟨some 69, .load 26 (.tmp 4), _, _, _, none⟩) rfl _ _ rfl w.heap.size 26 Y.cells _ ?_ ?_ Try.underlying26 rfl (ctl_sz _) ?_); rfl; exact b4)
          | ((with_reducible refine wpList_bld (o := ⟨some 70, .build 37 #[(0, .tmp 69)], _, _, _, none⟩) rfl _ #[(0, .tmp 69)] #[(0, .agg Y.cells.toArray)] (didC Y 0 0).toArray rfl ?_ (run_d Y _) ?_); rfl)
          | ((with_reducible refine wpList_store_abs (o := ⟨none, .store 37 (.tmp 8) (.tmp 70), _, _, _, none⟩) rfl _ _ _ rfl (w.heap.size + 1) 37 (didC zK 0 0) (didC Y 0 0) ?_ ?_ ?_ ?_ ?_ ?_ ?_); rfl; rfl; exact b8; exact did_sz _ _ _; rfl; exact did_one _ _ _; intro w9 b9 o9))
        exact bodyPost_ret (did_ret Try.results30 _ _ (w.heap.size + 1) Y 0 0 rfl b9) rfl ⟨by rw [HY.out, hX.out], Below.only lw o9 (by omega)⟩
    | false =>
      have hX : anB (x.r k) j = x.r k := by unfold anB; rw [hb]; rfl
      have hY : ({ x with r := upd x.r k (anB (x.r k) j) } : Ctl) = x := by rw [hX, upd_same]
      replace hY := Lib.hid hY
      rw [hb] at KH
      clear hb hX hbp h5 hx hw hv
      go_enter Try.func30, Try.ntmps30
      go_upto_region 1 with fail
      obtain ⟨u0, hu⟩ : ∃ u0, (w.alloc (.cells x.cells.toArray 26)).alloc (.cells (didC zK 0 0).toArray 37) = u0 := ⟨_, rfl⟩
      rw [hu] at b4 b8 lw
      have hu2 : (w.alloc (.cells x.cells.toArray 26)).alloc (.cells #[.int .i64 0, .int .u32 0, .int .u32 0, .int .u32 0, .int .u32 0, .int .u32 0, .int .u32 0, .int .u32 0, .int .u32 0, .int .i64 0, .int .i64 0, .int .i64 0, .int .i64 0, .int .i64 0, .int .u32 0, .int .i64 0] 37) = u0 := hu
      rw [hu2]
      clear hu hu2
      have e1 := b4.cell (ctl_r x h4)
      go_wp2_with (first
        | (go_at_call 33; (with_reducible refine (KH.out _).mono ?_); rintro e w1 ⟨rfl, rfl⟩)
        | ((with_reducible refine wpList_load_blk (o := ⟨some 69, .load 26 (.tmp 4), _, _, _, none⟩) rfl _ _ rfl w.heap.size 26 x.cells _ ?_ ?_ Try.underlying26 rfl (ctl_sz _) ?_); rfl; exact b4)
        | ((with_reducible refine wpList_bld (o := ⟨some 70, .build 37 #[(0, .tmp 69)], _, _, _, none⟩) rfl _ #[(0, .tmp 69)] #[(0, .agg x.cells.toArray)] (didC x 0 0).toArray rfl ?_ (run_d x _) ?_); rfl)
        | ((with_reducible refine wpList_store_abs (o := ⟨none, .store 37 (.tmp 8) (.tmp 70), _, _, _, none⟩) rfl _ _ _ rfl (w.heap.size + 1) 37 (didC zK 0 0) (didC x 0 0) ?_ ?_ ?_ ?_ ?_ ?_ ?_); rfl; rfl; exact b8; exact did_sz _ _ _; rfl; exact did_one _ _ _; intro w9 b9 o9))
      exact bodyPost_ret (did_ret Try.results30 _ _ (w.heap.size + 1) x 0 0 rfl b9) rfl ⟨by rw [hY.out], Below.only lw o9 (by omega)⟩
  · rw [if_neg hlt]
    have d1 : decide (v < 5) = false := decide_eq_false hlt
    clear hx hw hv
    go_enter Try.func30, Try.ntmps30
    go_upto_region 1 with fail
    obtain ⟨u0, hu⟩ : ∃ u0, (w.alloc (.cells x.cells.toArray 26)).alloc (.cells (didC zK 0 0).toArray 37) = u0 := ⟨_, rfl⟩
    rw [hu] at b4 b8 lw
    have hu2 : (w.alloc (.cells x.cells.toArray 26)).alloc (.cells #[.int .i64 0, .int .u32 0, .int .u32 0, .int .u32 0, .int .u32 0, .int .u32 0, .int .u32 0, .int .u32 0, .int .u32 0, .int .i64 0, .int .i64 0, .int .i64 0, .int .i64 0, .int .i64 0, .int .u32 0, .int .i64 0] 37) = u0 := hu
    rw [hu2]
    clear hu hu2
    go_wp2_with (first
      | ((with_reducible refine wpList_load_blk (o := ⟨some 69, .load 26 (.tmp 4), _, _, _, none⟩) rfl _ _ rfl w.heap.size 26 x.cells _ ?_ ?_ Try.underlying26 rfl (ctl_sz _) ?_); rfl; exact b4)
      | ((with_reducible refine wpList_bld (o := ⟨some 70, .build 37 #[(0, .tmp 69)], _, _, _, none⟩) rfl _ #[(0, .tmp 69)] #[(0, .agg x.cells.toArray)] (didC x 0 0).toArray rfl ?_ (run_d x _) ?_); rfl)
      | ((with_reducible refine wpList_store_abs (o := ⟨none, .store 37 (.tmp 8) (.tmp 70), _, _, _, none⟩) rfl _ _ _ rfl (w.heap.size + 1) 37 (didC zK 0 0) (didC x 0 0) ?_ ?_ ?_ ?_ ?_ ?_ ?_); rfl; rfl; exact b8; exact did_sz _ _ _; rfl; exact did_one _ _ _; intro w9 b9 o9))
    exact bodyPost_ret (did_ret Try.results30 _ _ (w.heap.size + 1) x 0 0 rfl b9) rfl ⟨rfl, Below.only lw o9 (by omega)⟩
set_option maxRecDepth 100000 in
set_option maxHeartbeats 1000000 in
theorem rout_3 (x : Ctl) (k : Nat) (v : Int) (w : World) (hx : x.Ok) (hw : x.wf) (hk : (k : Int) < x.n) (hv : Tm.isE v) : Calls Try.prog 30 #[.agg x.cells.toArray, .int .i64 (k : Int), .int .i64 3, .int .i64 v] w fun e w' => e = .returned (.agg (didC (x.out k 3 v) 0 0).toArray) ∧ Later w w' := by
  have hn4 := hx.n4
  have h4 : k < 4 := by omega
  have hk4 : (k : Int) < 4 := by omega
  have hk0 : (0 : Int) ≤ k := by omega
  have hv0 := hv.1
  have hv2 := hv.2
  have b4 := (Blk.new w 26 x.cells.toArray x.cells rfl).alloc (.cells (didC zK 0 0).toArray 37)
  have b8 := Blk.new' (w.alloc (.cells x.cells.toArray 26)) (w.heap.size + 1) 37 (didC zK 0 0).toArray (didC zK 0 0) (by simp) rfl
  have lw := (later1 w (.cells x.cells.toArray 26)).alloc (by simp) (.cells (didC zK 0 0).toArray 37)
  have hres : x.out k 3 v = if v < x.n then x.raise 4 v.toNat else x := rfl
  rw [hres]
  clear hres
  by_cases hlt : v < x.n
  · rw [if_pos hlt]
    have d1 : decide (v < x.n) = true := decide_eq_true hlt
    have h9 := fun w' => rraise_any x 4 v.toNat w' hx hw (by omega)
    rw [show ((v.toNat : Nat) : Int) = v by omega] at h9
    have KR := Lib.hid h9
    obtain ⟨Y, hY⟩ : ∃ Y, Y = x.raise 4 v.toNat := ⟨_, rfl⟩
    rw [← hY] at KR ⊢
    clear hY h9 hx hw hv
    go_enter Try.func30, Try.ntmps30
    go_upto_region 1 with fail
    obtain ⟨u0, hu⟩ : ∃ u0, (w.alloc (.cells x.cells.toArray 26)).alloc (.cells (didC zK 0 0).toArray 37) = u0 := ⟨_, rfl⟩
    rw [hu] at b4 b8 lw
    have hu2 : (w.alloc (.cells x.cells.toArray 26)).alloc (.cells #[.int .i64 0, .int .u32 0, .int .u32 0, .int .u32 0, .int .u32 0, .int .u32 0, .int .u32 0, .int .u32 0, .int .u32 0, .int .i64 0, .int .i64 0, .int .i64 0, .int .i64 0, .int .i64 0, .int .u32 0, .int .i64 0] 37) = u0 := hu
    rw [hu2]
    clear hu hu2
    have e1 := b4.cell (ctl_n x)
    go_wp2_with (first
      | ((with_reducible refine wpList_load_blk (o := ⟨some 48, .load 26 (.tmp 4), _, _, _, none⟩) rfl _ _ rfl w.heap.size 26 x.cells _ ?_ ?_ Try.underlying26 rfl (ctl_sz _) ?_); rfl; exact b4)
      | (go_at_call 15; clear e1; (with_reducible refine (KR.out _).mono ?_); rintro e w1 ⟨rfl, l1⟩; replace b4 := b4.keep l1; replace b8 := b8.keep l1; replace lw := Later.trans_ lw l1)
      | ((with_reducible refine wpList_store_abs (o := ⟨none, .store 26 (.tmp 4) (.tmp 50), _, _, _, none⟩) rfl _ _ _ rfl w.heap.size 26 x.cells Y.cells ?_ ?_ ?_ ?_ ?_ ?_ ?_); rfl; rfl; exact b4; exact ctl_sz _; rfl; exact ctl_one _; intro w2 b4n o2; clear b4; have b4 := b4n; clear b4n; replace b8 := b8.only o2 (by omega); replace lw := Below.only lw o2 (by omega))
      | ((with_reducible refine wpList_load_blk (o := ⟨some 69, .load 26 (.tmp 4), _, _, _, none⟩) rfl _ _ rfl w.heap.size 26 Y.cells _ ?_ ?_ Try.underlying26 rfl (ctl_sz _) ?_); rfl; exact b4)
      | ((with_reducible refine wpList_bld (o := ⟨some 70, .build 37 #[(0, .tmp 69)], _, _, _, none⟩) rfl _ #[(0, .tmp 69)] #[(0, .agg Y.cells.toArray)] (didC Y 0 0).toArray rfl ?_ (run_d Y _) ?_); rfl)
      | ((with_reducible refine wpList_store_abs (o := ⟨none, .store 37 (.tmp 8) (.tmp 70), _, _, _, none⟩) rfl _ _ _ rfl (w.heap.size + 1) 37 (didC zK 0 0) (didC Y 0 0) ?_ ?_ ?_ ?_ ?_ ?_ ?_); rfl; rfl; exact b8; exact did_sz _ _ _; rfl; exact did_one _ _ _; intro w9 b9 o9))
    exact bodyPost_ret (did_ret Try.results30 _ _ (w.heap.size + 1) Y 0 0 rfl b9) rfl ⟨rfl, Below.only lw o9 (by omega)⟩
  · rw [if_neg hlt]
    have d1 : decide (v < x.n) = false := decide_eq_false hlt
    clear hx hw hv
    go_enter Try.func30, Try.ntmps30
    go_upto_region 1 with fail
    obtain ⟨u0, hu⟩ : ∃ u0, (w.alloc (.cells x.cells.toArray 26)).alloc (.cells (didC zK 0 0).toArray 37) = u0 := ⟨_, rfl⟩
    rw [hu] at b4 b8 lw
    have hu2 : (w.alloc (.cells x.cells.toArray 26)).alloc (.cells #[.int .i64 0, .int .u32 0, .int .u32 0, .int .u32 0, .int .u32 0, .int .u32 0, .int .u32 0, .int .u32 0, .int .u32 0, .int .i64 0, .int .i64 0, .int .i64 0, .int .i64 0, .int .i64 0, .int .u32 0, .int .i64 0] 37) = u0 := hu
    rw [hu2]
    clear hu hu2
    have e1 := b4.cell (ctl_n x)
    go_wp2_with (first
      | ((with_reducible refine wpList_load_blk (o := ⟨some 69, .load 26 (.tmp 4), _, _, _, none⟩) rfl _ _ rfl w.heap.size 26 x.cells _ ?_ ?_ Try.underlying26 rfl (ctl_sz _) ?_); rfl; exact b4)
      | ((with_reducible refine wpList_bld (o := ⟨some 70, .build 37 #[(0, .tmp 69)], _, _, _, none⟩) rfl _ #[(0, .tmp 69)] #[(0, .agg x.cells.toArray)] (didC x 0 0).toArray rfl ?_ (run_d x _) ?_); rfl)
      | ((with_reducible refine wpList_store_abs (o := ⟨none, .store 37 (.tmp 8) (.tmp 70), _, _, _, none⟩) rfl _ _ _ rfl (w.heap.size + 1) 37 (didC zK 0 0) (didC x 0 0) ?_ ?_ ?_ ?_ ?_ ?_ ?_); rfl; rfl; exact b8; exact did_sz _ _ _; rfl; exact did_one _ _ _; intro w9 b9 o9))
    exact bodyPost_ret (did_ret Try.results30 _ _ (w.heap.size + 1) x 0 0 rfl b9) rfl ⟨rfl, Below.only lw o9 (by omega)⟩
set_option maxRecDepth 100000 in
set_option maxHeartbeats 1000000 in
theorem rout_4 (x : Ctl) (k : Nat) (v : Int) (w : World) (hx : x.Ok) (_ : x.wf) (hk : (k : Int) < x.n) (hv : Tm.isE v) : Calls Try.prog 30 #[.agg x.cells.toArray, .int .i64 (k : Int), .int .i64 4, .int .i64 v] w fun e w' => e = .returned (.agg (didC (x.out k 4 v) 0 0).toArray) ∧ Later w w' := by
  have hn4 := hx.n4
  have h4 : k < 4 := by omega
  have hk4 : (k : Int) < 4 := by omega
  have hk0 : (0 : Int) ≤ k := by omega
  have hv0 := hv.1
  have hv2 := hv.2
  have b4 := (Blk.new w 26 x.cells.toArray x.cells rfl).alloc (.cells (didC zK 0 0).toArray 37)
  have b8 := Blk.new' (w.alloc (.cells x.cells.toArray 26)) (w.heap.size + 1) 37 (didC zK 0 0).toArray (didC zK 0 0) (by simp) rfl
  have lw := (later1 w (.cells x.cells.toArray 26)).alloc (by simp) (.cells (didC zK 0 0).toArray 37)
  have hres : x.out k 4 v = if dev (v / 16) = true ∧ v % 16 < x.n then { x with t := upd x.t (v / 16).toNat (v % 16) } else x := rfl
  rw [hres]
  clear hres
  have t1 : v.tdiv 16 = v / 16 := Int.tdiv_eq_ediv_of_nonneg hv.1
  have t2 : v.tmod 16 = v % 16 := Int.tmod_eq_emod_of_nonneg hv.1
  have KO := Lib.hid fun w' => device_any (v / 16) w'
  rw [show decide (1 ≤ v / 16 ∧ v / 16 ≤ 3) = dev (v / 16) from rfl] at KO
  by_cases hd : dev (v / 16) = true
  · rw [hd] at KO
    by_cases hn : v % 16 < x.n
    · rw [if_pos ⟨hd, hn⟩]
      have hd5 : 1 ≤ v / 16 ∧ v / 16 ≤ 3 := of_decide_eq_true hd
      obtain ⟨j, hj⟩ : ∃ j : Nat, v / 16 = (j : Int) := ⟨(v / 16).toNat, by omega⟩
      obtain ⟨p, hp⟩ : ∃ p : Nat, v % 16 = (p : Int) := ⟨(v % 16).toNat, by omega⟩
      rw [hj] at KO hd5 t1 ⊢
      rw [hp] at t2 hn ⊢
      rw [Int.toNat_natCast]
      have hj5 : j < 5 := by omega
      have hji : (j : Int) < 5 := by omega
      have hj0 : (0 : Int) ≤ (j : Int) := by omega
      have d1 : decide ((p : Int) < x.n) = true := decide_eq_true hn
      clear hx hv hd hj hp hd5 hv0 hv2 hn
      go_enter Try.func30, Try.ntmps30
      go_upto_region 1 with fail
      obtain ⟨u0, hu⟩ : ∃ u0, (w.alloc (.cells x.cells.toArray 26)).alloc (.cells (didC zK 0 0).toArray 37) = u0 := ⟨_, rfl⟩
      rw [hu] at b4 b8 lw
      have hu2 : (w.alloc (.cells x.cells.toArray 26)).alloc (.cells #[.int .i64 0, .int .u32 0, .int .u32 0, .int .u32 0, .int .u32 0, .int .u32 0, .int .u32 0, .int .u32 0, .int .u32 0, .int .i64 0, .int .i64 0, .int .i64 0, .int .i64 0, .int .i64 0, .int .u32 0, .int .i64 0] 37) = u0 := hu
      rw [hu2]
      clear hu hu2
      have e0 := b4.cell (ctl_n x)
      have e1 := b4.cell (ctl_t x hj5)
      have f1 := b4.frz (9 + j)
      go_upto_region 14 with (first
        | (go_at_call 25; (with_reducible refine (KO.out _).mono ?_); rintro e w1 ⟨rfl, rfl⟩)
        )
      clear e0 e1 f1
      obtain ⟨u2, hu2⟩ : ∃ u2, u2 = u0.setCell ⟨w.heap.size, 9 + j, none⟩ (.int .i64 (p : Int)) := ⟨_, rfl⟩
      rw [← hu2]
      have b4n : Blk u2 w.heap.size 26 ({ x with t := upd x.t j (p : Int) } : Ctl).cells := by rw [hu2, ← set_t x hj5]; exact b4.set (9 + j) (.int .i64 (p : Int))
      replace b8 : Blk u2 (w.heap.size + 1) 37 (didC zK 0 0) := by rw [hu2]; exact b8.set_other ⟨w.heap.size, 9 + j, none⟩ (.int .i64 (p : Int)) (by first | (simp; done) | (simp; omega))
      replace lw : Later w u2 := by rw [hu2]; exact lw.setCell (p := ⟨w.heap.size, 9 + j, none⟩) (Nat.le_refl _) (.int .i64 (p : Int))
      clear hu2 b4
      have b4 := b4n
      clear b4n
      obtain ⟨Y, hY⟩ : ∃ Y : Ctl, Y = { x with t := upd x.t j (p : Int) } := ⟨_, rfl⟩
      have HY := Lib.hid hY
      rw [← hY] at b4
      clear hY
      go_wp2_with (first
        | ((with_reducible refine wpList_load_blk (o := ⟨some 69, .load 26 (.tmp 4), _, _, _, none⟩) rfl _ _ rfl w.heap.size 26 Y.cells _ ?_ ?_ Try.underlying26 rfl (ctl_sz _) ?_); rfl; exact b4)
        | ((with_reducible refine wpList_bld (o := ⟨some 70, .build 37 #[(0, .tmp 69)], _, _, _, none⟩) rfl _ #[(0, .tmp 69)] #[(0, .agg Y.cells.toArray)] (didC Y 0 0).toArray rfl ?_ (run_d Y _) ?_); rfl)
        | ((with_reducible refine wpList_store_abs (o := ⟨none, .store 37 (.tmp 8) (.tmp 70), _, _, _, none⟩) rfl _ _ _ rfl (w.heap.size + 1) 37 (didC zK 0 0) (didC Y 0 0) ?_ ?_ ?_ ?_ ?_ ?_ ?_); rfl; rfl; exact b8; exact did_sz _ _ _; rfl; exact did_one _ _ _; intro w9 b9 o9))
      exact bodyPost_ret (did_ret Try.results30 _ _ (w.heap.size + 1) Y 0 0 rfl b9) rfl ⟨by rw [HY.out], Below.only lw o9 (by omega)⟩
    · rw [if_neg (fun h => hn h.2)]
      obtain ⟨q, hq⟩ : ∃ q, v / 16 = q := ⟨_, rfl⟩
      obtain ⟨p, hp⟩ : ∃ p, v % 16 = p := ⟨_, rfl⟩
      rw [hq] at KO t1
      rw [hp] at t2 hn
      have m1 : IntKind.i64.wrap q = q := by rw [IntKind.wrap_i64]; omega
      have d1 : decide (p < x.n) = false := decide_eq_false hn
      clear hx hv hd hv0 hv2 hn hq hp
      go_enter Try.func30, Try.ntmps30
      go_upto_region 1 with fail
      obtain ⟨u0, hu⟩ : ∃ u0, (w.alloc (.cells x.cells.toArray 26)).alloc (.cells (didC zK 0 0).toArray 37) = u0 := ⟨_, rfl⟩
      rw [hu] at b4 b8 lw
      have hu2 : (w.alloc (.cells x.cells.toArray 26)).alloc (.cells #[.int .i64 0, .int .u32 0, .int .u32 0, .int .u32 0, .int .u32 0, .int .u32 0, .int .u32 0, .int .u32 0, .int .u32 0, .int .i64 0, .int .i64 0, .int .i64 0, .int .i64 0, .int .i64 0, .int .u32 0, .int .i64 0] 37) = u0 := hu
      rw [hu2]
      clear hu hu2
      have e0 := b4.cell (ctl_n x)
      go_wp2_with (first
        | (go_at_call 25; (with_reducible refine (KO.out _).mono ?_); rintro e w1 ⟨rfl, rfl⟩)
        | ((with_reducible refine wpList_load_blk (o := ⟨some 69, .load 26 (.tmp 4), _, _, _, none⟩) rfl _ _ rfl w.heap.size 26 x.cells _ ?_ ?_ Try.underlying26 rfl (ctl_sz _) ?_); rfl; exact b4)
        | ((with_reducible refine wpList_bld (o := ⟨some 70, .build 37 #[(0, .tmp 69)], _, _, _, none⟩) rfl _ #[(0, .tmp 69)] #[(0, .agg x.cells.toArray)] (didC x 0 0).toArray rfl ?_ (run_d x _) ?_); rfl)
        | ((with_reducible refine wpList_store_abs (o := ⟨none, .store 37 (.tmp 8) (.tmp 70), _, _, _, none⟩) rfl _ _ _ rfl (w.heap.size + 1) 37 (didC zK 0 0) (didC x 0 0) ?_ ?_ ?_ ?_ ?_ ?_ ?_); rfl; rfl; exact b8; exact did_sz _ _ _; rfl; exact did_one _ _ _; intro w9 b9 o9))
      exact bodyPost_ret (did_ret Try.results30 _ _ (w.heap.size + 1) x 0 0 rfl b9) rfl ⟨rfl, Below.only lw o9 (by omega)⟩
  · rw [if_neg (fun h => hd h.1)]
    have hd : dev (v / 16) = false := by simpa using hd
    rw [hd] at KO
    obtain ⟨q, hq⟩ : ∃ q, v / 16 = q := ⟨_, rfl⟩
    rw [hq] at KO t1
    have m1 : IntKind.i64.wrap q = q := by rw [IntKind.wrap_i64]; omega
    clear hx hv hd hv0 hv2 hq
    go_enter Try.func30, Try.ntmps30
    go_upto_region 1 with fail
    obtain ⟨u0, hu⟩ : ∃ u0, (w.alloc (.cells x.cells.toArray 26)).alloc (.cells (didC zK 0 0).toArray 37) = u0 := ⟨_, rfl⟩
    rw [hu] at b4 b8 lw
    have hu2 : (w.alloc (.cells x.cells.toArray 26)).alloc (.cells #[.int .i64 0, .int .u32 0, .int .u32 0, .int .u32 0, .int .u32 0, .int .u32 0, .int .u32 0, .int .u32 0, .int .u32 0, .int .i64 0, .int .i64 0, .int .i64 0, .int .i64 0, .int .i64 0, .int .u32 0, .int .i64 0] 37) = u0 := hu
    rw [hu2]
    clear hu hu2
    go_wp2_with (first
      | (go_at_call 25; (with_reducible refine (KO.out _).mono ?_); rintro e w1 ⟨rfl, rfl⟩)
      | ((with_reducible refine wpList_load_blk (o := ⟨some 69, .load 26 (.tmp 4), _, _, _, none⟩) rfl _ _ rfl w.heap.size 26 x.cells _ ?_ ?_ Try.underlying26 rfl (ctl_sz _) ?_); rfl; exact b4)
      | ((with_reducible refine wpList_bld (o := ⟨some 70, .build 37 #[(0, .tmp 69)], _, _, _, none⟩) rfl _ #[(0, .tmp 69)] #[(0, .agg x.cells.toArray)] (didC x 0 0).toArray rfl ?_ (run_d x _) ?_); rfl)
      | ((with_reducible refine wpList_store_abs (o := ⟨none, .store 37 (.tmp 8) (.tmp 70), _, _, _, none⟩) rfl _ _ _ rfl (w.heap.size + 1) 37 (didC zK 0 0) (didC x 0 0) ?_ ?_ ?_ ?_ ?_ ?_ ?_); rfl; rfl; exact b8; exact did_sz _ _ _; rfl; exact did_one _ _ _; intro w9 b9 o9))
    exact bodyPost_ret (did_ret Try.results30 _ _ (w.heap.size + 1) x 0 0 rfl b9) rfl ⟨rfl, Below.only lw o9 (by omega)⟩
set_option maxRecDepth 100000 in
set_option maxHeartbeats 1000000 in
theorem rout_X (x : Ctl) (k : Nat) (p : Int) (v : Int) (w : World) (hx : x.Ok) (_ : x.wf) (hk : (k : Int) < x.n) (hv : Tm.isE v) (h0 : p ≠ 0) (h2 : p ≠ 2) (h3 : p ≠ 3) (h4' : p ≠ 4) : Calls Try.prog 30 #[.agg x.cells.toArray, .int .i64 (k : Int), .int .i64 p, .int .i64 v] w fun e w' => e = .returned (.agg (didC (x.out k p v) 0 5).toArray) ∧ Later w w' := by
  have hn4 := hx.n4
  have h4 : k < 4 := by omega
  have hk4 : (k : Int) < 4 := by omega
  have hk0 : (0 : Int) ≤ k := by omega
  have hv0 := hv.1
  have hv2 := hv.2
  have b4 := (Blk.new w 26 x.cells.toArray x.cells rfl).alloc (.cells (didC zK 0 0).toArray 37)
  have b8 := Blk.new' (w.alloc (.cells x.cells.toArray 26)) (w.heap.size + 1) 37 (didC zK 0 0).toArray (didC zK 0 0) (by simp) rfl
  have lw := (later1 w (.cells x.cells.toArray 26)).alloc (by simp) (.cells (didC zK 0 0).toArray 37)
  have hres : x.out k p v = x := by unfold Ctl.out; simp [h0, h2, h3, h4']
  rw [hres]
  have d0 : (p == 0) = false := beq_false_of_ne h0
  have d2 : (p == 2) = false := beq_false_of_ne h2
  have d3 : (p == 3) = false := beq_false_of_ne h3
  have d4 : (p == 4) = false := beq_false_of_ne h4'
  clear hres hx hv
  go_enter Try.func30, Try.ntmps30
  go_upto_region 1 with fail
  obtain ⟨u0, hu⟩ : ∃ u0, (w.alloc (.cells x.cells.toArray 26)).alloc (.cells (didC zK 0 0).toArray 37) = u0 := ⟨_, rfl⟩
  rw [hu] at b4 b8 lw
  have hu2 : (w.alloc (.cells x.cells.toArray 26)).alloc (.cells #[.int .i64 0, .int .u32 0, .int .u32 0, .int .u32 0, .int .u32 0, .int .u32 0, .int .u32 0, .int .u32 0, .int .u32 0, .int .i64 0, .int .i64 0, .int .i64 0, .int .i64 0, .int .i64 0, .int .u32 0, .int .i64 0] 37) = u0 := hu
  rw [hu2]
  clear hu hu2
  go_wp2_with (first
    | ((with_reducible refine wpList_load_blk (o := ⟨some 10, .load 26 (.tmp 4), _, _, _, none⟩) rfl _ _ rfl w.heap.size 26 x.cells _ ?_ ?_ Try.underlying26 rfl (ctl_sz _) ?_); rfl; exact b4)
    | ((with_reducible refine wpList_bld (o := ⟨some 11, .build 37 #[(0, .tmp 10), (2, .const (.int .i64 5))], _, _, _, none⟩) rfl _ #[(0, .tmp 10), (2, .const (.int .i64 5))] #[(0, .agg x.cells.toArray), (2, .int .i64 5)] (didC x 0 5).toArray rfl ?_ (run_de x 5 _) ?_); rfl)
    | ((with_reducible refine wpList_store_abs (o := ⟨none, .store 37 (.tmp 8) (.tmp 11), _, _, _, none⟩) rfl _ _ _ rfl (w.heap.size + 1) 37 (didC zK 0 0) (didC x 0 5) ?_ ?_ ?_ ?_ ?_ ?_ ?_); rfl; rfl; exact b8; exact did_sz _ _ _; rfl; exact did_one _ _ _; intro w9 b9 o9))
  exact bodyPost_ret (did_ret Try.results30 _ _ (w.heap.size + 1) x 0 5 rfl b9) rfl ⟨rfl, Below.only lw o9 (by omega)⟩
theorem rout_any (x : Ctl) (k : Nat) (p v : Int) (w : World) (hx : x.Ok) (hw : x.wf) (hk : (k : Int) < x.n) (hv : Tm.isE v) : Calls Try.prog 30 #[.agg x.cells.toArray, .int .i64 (k : Int), .int .i64 p, .int .i64 v] w fun e w' => e = .returned (.agg (didC (x.out k p v) 0 (pErr false p)).toArray) ∧ Later w w' := by
  by_cases h0 : p = 0
  · subst h0; exact rout_0 x k v w hx hw hk hv
  by_cases h2 : p = 2
  · subst h2; exact rout_2 x k v w hx hw hk hv
  by_cases h3 : p = 3
  · subst h3; exact rout_3 x k v w hx hw hk hv
  by_cases h4 : p = 4
  · subst h4; exact rout_4 x k v w hx hw hk hv
  have e2 : pErr false p = 5 := by unfold pErr; simp [h0, h2, h3, h4]
  rw [e2]
  exact rout_X x k p v w hx hw hk hv h0 h2 h3 h4
end Go.Proofs.Ytkpigonlnabmdab
