/-
  THE STATEMENT ClockRingsAsSpecified: of valid clocks Set, Next and Fire do what the specification says; for every clock, processor, count and number.
-/
import Derived.Test.YtdohocbpjpnmeaaCloI
import Derived.Deep.RegionHeld
namespace Go.Proofs.Ytdohocbpjpnmeaa
open Go.RowKit Go.ChangeShapes Go.WideShapes Go.ChangeAt

set_option maxRecDepth 100000 in
set_option maxHeartbeats 8000000 in
theorem rings_all (x : Clk) (c n v : Int) (w : World) (hv : 0 ≤ v ∧ v ≤ 4294967295) : Calls Try.prog 4 #[.agg x.cells.toArray, .int .i64 c, .int .i64 n, .int .u32 v] w fun e w' => e = .returned (.bool true) ∧ Later w w' := by
  have KS := Lib.hid fun w' => sanity_any w'
  have b3 := Blk.new w 25 x.cells.toArray x.cells rfl
  have lw := later1 w (.cells x.cells.toArray 25)
  obtain ⟨u0, hu⟩ : ∃ u0, w.alloc (.cells x.cells.toArray 25) = u0 := ⟨_, rfl⟩
  rw [hu] at b3 lw
  obtain ⟨b, hb⟩ := ok_dec x
  have KR := Lib.hid fun w' => rvalid_any x b w' hb
  clear hb
  cases b with
  | false =>
    clear hv
    go_enter Try.func4, Try.ntmps4
    go_upto_region 1 with fail
    clear hu
    go_wp2_with (first
      | ((with_reducible refine wpList_load_blk (o := ⟨some 16, .load 25 (.tmp 4), _, _, _, none⟩) rfl _ _ rfl w.heap.size 25 x.cells _ ?_ ?_ Try.underlying25 rfl (clk_sz _) ?_); rfl; exact b3)
      | (go_at_call 10; (with_reducible refine (KR.out _).mono ?_); rintro e w1 ⟨rfl, l1⟩; replace b3 := b3.keep l1; replace lw := Later.trans_ lw l1)
      | (go_at_call 12; (with_reducible refine (KS.out _).mono ?_); rintro e w3 ⟨rfl, l1⟩; replace b3 := b3.keep l1; replace lw := Later.trans_ lw l1))
    go_ret
    exact ⟨rfl, lw⟩
  | true =>
    have KO := Lib.hid fun w' => set_any x c n v w' hv
    have KE := Lib.hid fun w' => fire_any x c n w'
    have KP := Lib.hid fun w' => rset_any x c n v w' hv
    have KQ := Lib.hid fun w' => rfire_any x c n w'
    have KX := Lib.hid fun w' => next_any x c w'
    have KY := Lib.hid fun w' => rnext_any x c w'
    obtain ⟨y, hy⟩ : ∃ y, y = x.setC c n v := ⟨_, rfl⟩
    obtain ⟨ye, hye⟩ : ∃ y, y = setE c n := ⟨_, rfl⟩
    obtain ⟨z, hz⟩ : ∃ y, y = x.fireC c n := ⟨_, rfl⟩
    obtain ⟨zb, hzb⟩ : ∃ y, y = x.fire c n := ⟨_, rfl⟩
    obtain ⟨nx, hnx⟩ : ∃ y, y = x.next c := ⟨_, rfl⟩
    rw [← hy, ← hye] at KO KP
    rw [← hz, ← hzb] at KE KQ
    rw [← hnx] at KX KY
    have hqy := clk_same y
    have hqz := clk_same z
    clear hy hye hz hzb hnx hv
    go_enter Try.func4, Try.ntmps4
    go_upto_region 1 with fail
    clear hu
    go_upto_region 6 with (first
      | ((with_reducible refine wpList_load_blk (o := ⟨some 16, .load 25 (.tmp 4), _, _, _, none⟩) rfl _ _ rfl w.heap.size 25 x.cells _ ?_ ?_ Try.underlying25 rfl (clk_sz _) ?_); rfl; exact b3)
      | (go_at_call 10; (with_reducible refine (KR.out _).mono ?_); rintro e w1 ⟨rfl, l1⟩; replace b3 := b3.keep l1; replace lw := Later.trans_ lw l1)
      | ((with_reducible refine wpList_load_blk (o := ⟨some 22, .load 25 (.tmp 4), _, _, _, none⟩) rfl _ _ rfl w.heap.size 25 x.cells _ ?_ ?_ Try.underlying25 rfl (clk_sz _) ?_); rfl; exact b3)
      | (go_at_call 17; (with_reducible refine (KO.out _).mono ?_); rintro e w3 ⟨rfl, l1⟩; replace b3 := b3.keep l1; replace lw := Later.trans_ lw l1)
      | ((with_reducible refine wpList_store_abs (o := ⟨none, .store 25 (.tmp 10) (.tmp 27), _, _, _, none⟩) rfl _ _ _ rfl w3.heap.size 25 zK.cells y.cells ?_ ?_ ?_ ?_ ?_ ?_ ?_); rfl; rfl; exact (Blk.new _ _ _ _ rfl); exact clk_sz _; rfl; exact clk_one _; intro u3 b8 ob8; replace b3 := (b3.alloc (.cells zK.cells.toArray 25)).only ob8 (Nat.ne_of_lt b3.lt); replace lw := Below.only (lw.alloc lw.size (.cells zK.cells.toArray 25)) ob8 lw.size; clear ob8)
      | ((with_reducible refine wpList_load_blk (o := ⟨some 30, .load 25 (.tmp 4), _, _, _, none⟩) rfl _ _ rfl w.heap.size 25 x.cells _ ?_ ?_ Try.underlying25 rfl (clk_sz _) ?_); rfl; exact b3)
      | (go_at_call 18; (with_reducible refine (KE.out _).mono ?_); rintro e w4 ⟨rfl, l1⟩; replace b3 := b3.keep l1; replace b8 := b8.keep l1; replace lw := Later.trans_ lw l1)
      | ((with_reducible refine wpList_store_abs (o := ⟨none, .store 25 (.tmp 12) (.tmp 34), _, _, _, none⟩) rfl _ _ _ rfl w4.heap.size 25 zK.cells z.cells ?_ ?_ ?_ ?_ ?_ ?_ ?_); rfl; rfl; exact (Blk.new _ _ _ _ rfl); exact clk_sz _; rfl; exact clk_one _; intro u4 b10 ob10; replace b3 := (b3.alloc (.cells zK.cells.toArray 25)).only ob10 (Nat.ne_of_lt b3.lt); replace b8 := (b8.alloc (.cells zK.cells.toArray 25)).only ob10 (Nat.ne_of_lt b8.lt); replace lw := Below.only (lw.alloc lw.size (.cells zK.cells.toArray 25)) ob10 lw.size; clear ob10))
    go_upto_region 8 with (first
      | ((with_reducible refine wpList_load_blk (o := ⟨some 36, .load 25 (.tmp 4), _, _, _, none⟩) rfl _ _ rfl w.heap.size 25 x.cells _ ?_ ?_ Try.underlying25 rfl (clk_sz _) ?_); rfl; exact b3)
      | (go_at_call 19; (with_reducible refine (KP.out _).mono ?_); rintro e w5 ⟨rfl, l1⟩; replace b3 := b3.keep l1; replace b8 := b8.keep l1; replace b10 := b10.keep l1; replace lw := Later.trans_ lw l1)
      | ((with_reducible refine wpList_store_abs (o := ⟨none, .store 35 (.tmp 14) (.tmp 40), _, _, _, none⟩) rfl _ _ _ rfl w5.heap.size 35 (gotC zK 0 false 0) (gotC y 0 false ye) ?_ ?_ ?_ ?_ ?_ ?_ ?_); rfl; rfl; exact (Blk.new _ _ _ _ rfl); exact got_sz _ _ _ _; rfl; exact got_one _ _ _ _; intro u5 b13 ob13; replace b3 := (b3.alloc (.cells (gotC zK 0 false 0).toArray 35)).only ob13 (Nat.ne_of_lt b3.lt); replace b8 := (b8.alloc (.cells (gotC zK 0 false 0).toArray 35)).only ob13 (Nat.ne_of_lt b8.lt); replace b10 := (b10.alloc (.cells (gotC zK 0 false 0).toArray 35)).only ob13 (Nat.ne_of_lt b10.lt); replace lw := Below.only (lw.alloc lw.size (.cells (gotC zK 0 false 0).toArray 35)) ob13 lw.size; clear ob13)
      | ((with_reducible refine wpList_load_blk (o := ⟨some 41, .load 25 (.tmp 4), _, _, _, none⟩) rfl _ _ rfl w.heap.size 25 x.cells _ ?_ ?_ Try.underlying25 rfl (clk_sz _) ?_); rfl; exact b3)
      | (go_at_call 20; (with_reducible refine (KQ.out _).mono ?_); rintro e w6 ⟨rfl, l1⟩; replace b3 := b3.keep l1; replace b8 := b8.keep l1; replace b10 := b10.keep l1; replace b13 := b13.keep l1; replace lw := Later.trans_ lw l1)
      | ((with_reducible refine wpList_store_abs (o := ⟨none, .store 35 (.tmp 15) (.tmp 44), _, _, _, none⟩) rfl _ _ _ rfl w6.heap.size 35 (gotC zK 0 false 0) (gotC z 0 zb 0) ?_ ?_ ?_ ?_ ?_ ?_ ?_); rfl; rfl; exact (Blk.new _ _ _ _ rfl); exact got_sz _ _ _ _; rfl; exact got_one _ _ _ _; intro u6 b14 ob14; replace b3 := (b3.alloc (.cells (gotC zK 0 false 0).toArray 35)).only ob14 (Nat.ne_of_lt b3.lt); replace b8 := (b8.alloc (.cells (gotC zK 0 false 0).toArray 35)).only ob14 (Nat.ne_of_lt b8.lt); replace b10 := (b10.alloc (.cells (gotC zK 0 false 0).toArray 35)).only ob14 (Nat.ne_of_lt b10.lt); replace b13 := (b13.alloc (.cells (gotC zK 0 false 0).toArray 35)).only ob14 (Nat.ne_of_lt b13.lt); replace lw := Below.only (lw.alloc lw.size (.cells (gotC zK 0 false 0).toArray 35)) ob14 lw.size; clear ob14))
    replace b3 := b3.drew
    replace b8 := b8.drew
    replace b10 := b10.drew
    replace b13 := b13.drew
    replace b14 := b14.drew
    replace lw := lw.drew
    refine wp_region_held_drew (S := fun w' => World.rangeAt w' w3.heap.size 0 y.cells ∧ World.rangeAt w' w5.heap.size 0 y.cells ∧ w'.cell? ⟨w5.heap.size, 15, none⟩ = some (.int .i64 ye) ∧ World.rangeAt w' w4.heap.size 0 z.cells ∧ World.rangeAt w' w6.heap.size 0 z.cells ∧ w'.cell? ⟨w6.heap.size, 14, none⟩ = some (.bool zb) ∧ World.rangeAt w' w.heap.size 0 x.cells) (by kernel_rfl) ⟨(show World.rangeAt _ w3.heap.size 0 y.cells from b8.range 0 13), (show World.rangeAt _ w5.heap.size 0 y.cells from b13.range 0 13), b13.cell (j := 15) rfl, (show World.rangeAt _ w4.heap.size 0 z.cells from b10.range 0 13), (show World.rangeAt _ w6.heap.size 0 z.cells from b14.range 0 13), b14.cell (j := 14) rfl, (show World.rangeAt _ w.heap.size 0 x.cells from b3.range 0 13)⟩ (fun hHeld => ?_)
    refine wpAnyH_ready (rs := [0]) (by kernel_rfl) (by simp) (AllReadyH.cons (o := ⟨some 45, .call { callee := .value (.func 12), args := #[], argTypes := #[] }, _, _, _, none⟩) rfl (fun K' hK => ?_) (AllReadyH.nil))
    go_simp
    (with_reducible refine (KS.out _).mono ?_)
    rintro e y1 ⟨rfl, l1⟩
    replace b3 := b3.keep l1
    replace b8 := b8.keep l1
    replace b10 := b10.keep l1
    replace b13 := b13.keep l1
    replace b14 := b14.keep l1
    replace lw := Later.trans_ lw l1
    refine hK.out _ _ ⟨(show World.rangeAt _ w3.heap.size 0 y.cells from b8.range 0 13), (show World.rangeAt _ w5.heap.size 0 y.cells from b13.range 0 13), b13.cell (j := 15) rfl, (show World.rangeAt _ w4.heap.size 0 z.cells from b10.range 0 13), (show World.rangeAt _ w6.heap.size 0 z.cells from b14.range 0 13), b14.cell (j := 14) rfl, (show World.rangeAt _ w.heap.size 0 x.cells from b3.range 0 13)⟩ (fun hHeld => ?_)
    clear hK K'
    try simp only [Act.put, List.setIfInBounds_toArray, List.set_cons_zero, List.set_cons_succ]
    refine wpAnyH_take (i := 1) (oi := ⟨some 46, .move (.tmp 45), _, _, _, none⟩) (v := .bool true) rfl (by kernel_rfl) (by kernel_rfl) (by kernel_rfl) (fun _ _ _ h => h) (Or.inl ⟨by rfl, fun _ _ => rfl⟩) hHeld ?_
    simp only [Act.put, List.setIfInBounds_toArray, List.set_cons_zero, List.set_cons_succ]
    refine wpAnyH_take (i := 2) (oi := ⟨some 47, .load 25 (.tmp 10), _, _, _, _⟩) (v := .agg y.cells.toArray) rfl (by kernel_rfl) (by kernel_rfl) (by kernel_rfl) (fun _ _ _ h => h) (yieldsIf_load_mid (by rfl) _ _ rfl _ _ rfl y.cells _ (fun w h => h.1) Try.underlying25 rfl (clk_sz _)) hHeld ?_
    simp only [Act.put, List.setIfInBounds_toArray, List.set_cons_zero, List.set_cons_succ]
    refine wpAnyH_take (i := 3) (oi := ⟨some 48, .fieldAddr 35 (.tmp 14) 0, _, _, _, _⟩) (v := .pointer (some ⟨w5.heap.size, 0, none⟩)) rfl (by kernel_rfl) (by kernel_rfl) (by kernel_rfl) (fun _ _ _ h => h) (Or.inl ⟨by rfl, fun w _ => by go_simp⟩) hHeld ?_
    simp only [Act.put, List.setIfInBounds_toArray, List.set_cons_zero, List.set_cons_succ]
    refine wpAnyH_take (i := 4) (oi := ⟨some 49, .load 25 (.tmp 48), _, _, _, _⟩) (v := .agg y.cells.toArray) rfl (by kernel_rfl) (by kernel_rfl) (by kernel_rfl) (fun _ _ _ h => h) (yieldsIf_load_mid (by rfl) _ _ rfl _ _ rfl y.cells _ (fun w h => h.2.1) Try.underlying25 rfl (clk_sz _)) hHeld ?_
    simp only [Act.put, List.setIfInBounds_toArray, List.set_cons_zero, List.set_cons_succ]
    refine wpAnyH_take (i := 5) (oi := ⟨some 50, .binOp .eql 25 (.tmp 47) (.tmp 49) 25, _, _, _, _⟩) (v := .bool true) rfl (by kernel_rfl) (by kernel_rfl) (by kernel_rfl) (fun _ _ _ h => h) (Or.inl ⟨by rfl, fun w _ => by go_simp⟩) hHeld ?_
    simp only [Act.put, List.setIfInBounds_toArray, List.set_cons_zero, List.set_cons_succ]
    refine wpAnyH_take (i := 6) (oi := ⟨some 51, .pick (.tmp 46) (.tmp 50) (.const (.bool false)), _, _, _, none⟩) (v := .bool true) rfl (by kernel_rfl) (by kernel_rfl) (by kernel_rfl) (fun _ _ _ h => h) (Or.inl ⟨by rfl, fun w _ => by go_simp⟩) hHeld ?_
    simp only [Act.put, List.setIfInBounds_toArray, List.set_cons_zero, List.set_cons_succ]
    refine wpAnyH_take (i := 7) (oi := ⟨some 52, .move (.tmp 51), _, _, _, none⟩) (v := .bool true) rfl (by kernel_rfl) (by kernel_rfl) (by kernel_rfl) (fun _ _ _ h => h) (Or.inl ⟨by rfl, fun _ _ => rfl⟩) hHeld ?_
    simp only [Act.put, List.setIfInBounds_toArray, List.set_cons_zero, List.set_cons_succ]
    refine wpAnyH_take (i := 8) (oi := ⟨some 53, .move (.tmp 11), _, _, _, _⟩) (v := .int .i64 ye) rfl (by kernel_rfl) (by kernel_rfl) (by kernel_rfl) (fun _ _ _ h => h) (Or.inl ⟨by rfl, fun _ _ => rfl⟩) hHeld ?_
    simp only [Act.put, List.setIfInBounds_toArray, List.set_cons_zero, List.set_cons_succ]
    refine wpAnyH_take (i := 9) (oi := ⟨some 54, .fieldAddr 35 (.tmp 14) 3, _, _, _, _⟩) (v := .pointer (some ⟨w5.heap.size, 15, none⟩)) rfl (by kernel_rfl) (by kernel_rfl) (by kernel_rfl) (fun _ _ _ h => h) (Or.inl ⟨by rfl, fun w _ => by go_simp⟩) hHeld ?_
    simp only [Act.put, List.setIfInBounds_toArray, List.set_cons_zero, List.set_cons_succ]
    refine wpAnyH_take (i := 10) (oi := ⟨some 55, .load 28 (.tmp 54), _, _, _, _⟩) (v := .int .i64 ye) rfl (by kernel_rfl) (by kernel_rfl) (by kernel_rfl) (fun _ _ _ h => h) (Or.inl ⟨by rfl, fun w hSw => by have e1 := hSw.2.2.1; clear hSw; go_simp⟩) hHeld ?_
    simp only [Act.put, List.setIfInBounds_toArray, List.set_cons_zero, List.set_cons_succ]
    refine wpAnyH_take (i := 11) (oi := ⟨some 56, .binOp .eql 28 (.tmp 53) (.tmp 55) 28, _, _, _, _⟩) (v := .bool true) rfl (by kernel_rfl) (by kernel_rfl) (by kernel_rfl) (fun _ _ _ h => h) (Or.inl ⟨by rfl, fun w _ => by go_simp⟩) hHeld ?_
    simp only [Act.put, List.setIfInBounds_toArray, List.set_cons_zero, List.set_cons_succ]
    refine wpAnyH_take (i := 12) (oi := ⟨some 57, .pick (.tmp 52) (.tmp 56) (.const (.bool false)), _, _, _, none⟩) (v := .bool true) rfl (by kernel_rfl) (by kernel_rfl) (by kernel_rfl) (fun _ _ _ h => h) (Or.inl ⟨by rfl, fun w _ => by go_simp⟩) hHeld ?_
    simp only [Act.put, List.setIfInBounds_toArray, List.set_cons_zero, List.set_cons_succ]
    refine wpAnyH_take (i := 13) (oi := ⟨some 58, .move (.tmp 57), _, _, _, none⟩) (v := .bool true) rfl (by kernel_rfl) (by kernel_rfl) (by kernel_rfl) (fun _ _ _ h => h) (Or.inl ⟨by rfl, fun _ _ => rfl⟩) hHeld ?_
    simp only [Act.put, List.setIfInBounds_toArray, List.set_cons_zero, List.set_cons_succ]
    refine wpAnyH_take (i := 14) (oi := ⟨some 59, .load 25 (.tmp 12), _, _, _, _⟩) (v := .agg z.cells.toArray) rfl (by kernel_rfl) (by kernel_rfl) (by kernel_rfl) (fun _ _ _ h => h) (yieldsIf_load_mid (by rfl) _ _ rfl _ _ rfl z.cells _ (fun w h => h.2.2.2.1) Try.underlying25 rfl (clk_sz _)) hHeld ?_
    simp only [Act.put, List.setIfInBounds_toArray, List.set_cons_zero, List.set_cons_succ]
    refine wpAnyH_take (i := 15) (oi := ⟨some 60, .fieldAddr 35 (.tmp 15) 0, _, _, _, _⟩) (v := .pointer (some ⟨w6.heap.size, 0, none⟩)) rfl (by kernel_rfl) (by kernel_rfl) (by kernel_rfl) (fun _ _ _ h => h) (Or.inl ⟨by rfl, fun w _ => by go_simp⟩) hHeld ?_
    simp only [Act.put, List.setIfInBounds_toArray, List.set_cons_zero, List.set_cons_succ]
    refine wpAnyH_take (i := 16) (oi := ⟨some 61, .load 25 (.tmp 60), _, _, _, _⟩) (v := .agg z.cells.toArray) rfl (by kernel_rfl) (by kernel_rfl) (by kernel_rfl) (fun _ _ _ h => h) (yieldsIf_load_mid (by rfl) _ _ rfl _ _ rfl z.cells _ (fun w h => h.2.2.2.2.1) Try.underlying25 rfl (clk_sz _)) hHeld ?_
    simp only [Act.put, List.setIfInBounds_toArray, List.set_cons_zero, List.set_cons_succ]
    refine wpAnyH_take (i := 17) (oi := ⟨some 62, .binOp .eql 25 (.tmp 59) (.tmp 61) 25, _, _, _, _⟩) (v := .bool true) rfl (by kernel_rfl) (by kernel_rfl) (by kernel_rfl) (fun _ _ _ h => h) (Or.inl ⟨by rfl, fun w _ => by go_simp⟩) hHeld ?_
    simp only [Act.put, List.setIfInBounds_toArray, List.set_cons_zero, List.set_cons_succ]
    refine wpAnyH_take (i := 18) (oi := ⟨some 63, .pick (.tmp 58) (.tmp 62) (.const (.bool false)), _, _, _, none⟩) (v := .bool true) rfl (by kernel_rfl) (by kernel_rfl) (by kernel_rfl) (fun _ _ _ h => h) (Or.inl ⟨by rfl, fun w _ => by go_simp⟩) hHeld ?_
    simp only [Act.put, List.setIfInBounds_toArray, List.set_cons_zero, List.set_cons_succ]
    refine wpAnyH_take (i := 19) (oi := ⟨some 64, .move (.tmp 63), _, _, _, none⟩) (v := .bool true) rfl (by kernel_rfl) (by kernel_rfl) (by kernel_rfl) (fun _ _ _ h => h) (Or.inl ⟨by rfl, fun _ _ => rfl⟩) hHeld ?_
    simp only [Act.put, List.setIfInBounds_toArray, List.set_cons_zero, List.set_cons_succ]
    refine wpAnyH_take (i := 20) (oi := ⟨some 65, .move (.tmp 13), _, _, _, _⟩) (v := .bool zb) rfl (by kernel_rfl) (by kernel_rfl) (by kernel_rfl) (fun _ _ _ h => h) (Or.inl ⟨by rfl, fun _ _ => rfl⟩) hHeld ?_
    simp only [Act.put, List.setIfInBounds_toArray, List.set_cons_zero, List.set_cons_succ]
    refine wpAnyH_take (i := 21) (oi := ⟨some 66, .fieldAddr 35 (.tmp 15) 2, _, _, _, _⟩) (v := .pointer (some ⟨w6.heap.size, 14, none⟩)) rfl (by kernel_rfl) (by kernel_rfl) (by kernel_rfl) (fun _ _ _ h => h) (Or.inl ⟨by rfl, fun w _ => by go_simp⟩) hHeld ?_
    simp only [Act.put, List.setIfInBounds_toArray, List.set_cons_zero, List.set_cons_succ]
    refine wpAnyH_take (i := 22) (oi := ⟨some 67, .load 4 (.tmp 66), _, _, _, _⟩) (v := .bool zb) rfl (by kernel_rfl) (by kernel_rfl) (by kernel_rfl) (fun _ _ _ h => h) (Or.inl ⟨by rfl, fun w hSw => by have e1 := hSw.2.2.2.2.2.1; clear hSw; go_simp⟩) hHeld ?_
    simp only [Act.put, List.setIfInBounds_toArray, List.set_cons_zero, List.set_cons_succ]
    refine wpAnyH_take (i := 23) (oi := ⟨some 68, .binOp .eql 4 (.tmp 65) (.tmp 67) 4, _, _, _, _⟩) (v := .bool true) rfl (by kernel_rfl) (by kernel_rfl) (by kernel_rfl) (fun _ _ _ h => h) (Or.inl ⟨by rfl, fun w _ => by go_simp⟩) hHeld ?_
    simp only [Act.put, List.setIfInBounds_toArray, List.set_cons_zero, List.set_cons_succ]
    refine wpAnyH_take (i := 24) (oi := ⟨some 69, .pick (.tmp 64) (.tmp 68) (.const (.bool false)), _, _, _, none⟩) (v := .bool true) rfl (by kernel_rfl) (by kernel_rfl) (by kernel_rfl) (fun _ _ _ h => h) (Or.inl ⟨by rfl, fun w _ => by go_simp⟩) hHeld ?_
    simp only [Act.put, List.setIfInBounds_toArray, List.set_cons_zero, List.set_cons_succ]
    refine wpAnyH_take (i := 25) (oi := ⟨some 70, .move (.tmp 69), _, _, _, none⟩) (v := .bool true) rfl (by kernel_rfl) (by kernel_rfl) (by kernel_rfl) (fun _ _ _ h => h) (Or.inl ⟨by rfl, fun _ _ => rfl⟩) hHeld ?_
    simp only [Act.put, List.setIfInBounds_toArray, List.set_cons_zero, List.set_cons_succ]
    refine wpAnyH_take (i := 26) (oi := ⟨some 71, .load 25 (.tmp 4), _, _, _, _⟩) (v := .agg x.cells.toArray) rfl (by kernel_rfl) (by kernel_rfl) (by kernel_rfl) (fun _ _ _ h => h) (yieldsIf_load_mid (by rfl) _ _ rfl _ _ rfl x.cells _ (fun w h => h.2.2.2.2.2.2) Try.underlying25 rfl (clk_sz _)) hHeld ?_
    simp only [Act.put, List.setIfInBounds_toArray, List.set_cons_zero, List.set_cons_succ]
    refine wpAnyH_take (i := 27) (oi := ⟨some 72, .move (.tmp 1), _, _, _, _⟩) (v := .int .i64 c) rfl (by kernel_rfl) (by kernel_rfl) (by kernel_rfl) (fun _ _ _ h => h) (Or.inl ⟨by rfl, fun _ _ => rfl⟩) hHeld ?_
    simp only [Act.put, List.setIfInBounds_toArray, List.set_cons_zero, List.set_cons_succ]
    refine wpAnyH_take (i := 29) (oi := ⟨some 74, .load 25 (.tmp 4), _, _, _, _⟩) (v := .agg x.cells.toArray) rfl (by kernel_rfl) (by kernel_rfl) (by kernel_rfl) (fun _ _ _ h => h) (yieldsIf_load_mid (by rfl) _ _ rfl _ _ rfl x.cells _ (fun w h => h.2.2.2.2.2.2) Try.underlying25 rfl (clk_sz _)) hHeld ?_
    simp only [Act.put, List.setIfInBounds_toArray, List.set_cons_zero, List.set_cons_succ]
    refine wpAnyH_take (i := 30) (oi := ⟨some 75, .move (.tmp 1), _, _, _, _⟩) (v := .int .i64 c) rfl (by kernel_rfl) (by kernel_rfl) (by kernel_rfl) (fun _ _ _ h => h) (Or.inl ⟨by rfl, fun _ _ => rfl⟩) hHeld ?_
    simp only [Act.put, List.setIfInBounds_toArray, List.set_cons_zero, List.set_cons_succ]
    refine wpAnyH_ready (rs := [28]) (by kernel_rfl) (by simp) (AllReadyH.cons (o := ⟨some 73, .call { callee := .value (.func 21), args := #[.tmp 71, .tmp 72], argTypes := #[25, 3] }, _, _, _, _⟩) rfl (fun K' hK => ?_) (AllReadyH.nil))
    go_simp
    (with_reducible refine (KX.out _).mono ?_)
    rintro e y2 ⟨rfl, l1⟩
    replace b3 := b3.keep l1
    replace b8 := b8.keep l1
    replace b10 := b10.keep l1
    replace b13 := b13.keep l1
    replace b14 := b14.keep l1
    replace lw := Later.trans_ lw l1
    refine hK.out _ _ ⟨(show World.rangeAt _ w3.heap.size 0 y.cells from b8.range 0 13), (show World.rangeAt _ w5.heap.size 0 y.cells from b13.range 0 13), b13.cell (j := 15) rfl, (show World.rangeAt _ w4.heap.size 0 z.cells from b10.range 0 13), (show World.rangeAt _ w6.heap.size 0 z.cells from b14.range 0 13), b14.cell (j := 14) rfl, (show World.rangeAt _ w.heap.size 0 x.cells from b3.range 0 13)⟩ (fun hHeld => ?_)
    clear hK K'
    try simp only [Act.put, List.setIfInBounds_toArray, List.set_cons_zero, List.set_cons_succ]
    refine wpAnyH_ready (rs := [31]) (by kernel_rfl) (by simp) (AllReadyH.cons (o := ⟨some 76, .call { callee := .value (.func 22), args := #[.tmp 74, .tmp 75], argTypes := #[25, 3] }, _, _, _, _⟩) rfl (fun K' hK => ?_) (AllReadyH.nil))
    go_simp
    (with_reducible refine (KY.out _).mono ?_)
    rintro e y3 ⟨rfl, l1⟩
    replace b3 := b3.keep l1
    replace b8 := b8.keep l1
    replace b10 := b10.keep l1
    replace b13 := b13.keep l1
    replace b14 := b14.keep l1
    replace lw := Later.trans_ lw l1
    refine hK.out _ _ ⟨(show World.rangeAt _ w3.heap.size 0 y.cells from b8.range 0 13), (show World.rangeAt _ w5.heap.size 0 y.cells from b13.range 0 13), b13.cell (j := 15) rfl, (show World.rangeAt _ w4.heap.size 0 z.cells from b10.range 0 13), (show World.rangeAt _ w6.heap.size 0 z.cells from b14.range 0 13), b14.cell (j := 14) rfl, (show World.rangeAt _ w.heap.size 0 x.cells from b3.range 0 13)⟩ (fun hHeld => ?_)
    clear hK K'
    try simp only [Act.put, List.setIfInBounds_toArray, List.set_cons_zero, List.set_cons_succ]
    refine wpAnyH_take (i := 32) (oi := ⟨some 77, .binOp .eql 3 (.tmp 73) (.tmp 76) 3, _, _, _, _⟩) (v := .bool true) rfl (by kernel_rfl) (by kernel_rfl) (by kernel_rfl) (fun _ _ _ h => h) (Or.inl ⟨by rfl, fun w _ => by go_simp⟩) hHeld ?_
    simp only [Act.put, List.setIfInBounds_toArray, List.set_cons_zero, List.set_cons_succ]
    refine wpAnyH_take (i := 33) (oi := ⟨some 78, .pick (.tmp 70) (.tmp 77) (.const (.bool false)), _, _, _, none⟩) (v := .bool true) rfl (by kernel_rfl) (by kernel_rfl) (by kernel_rfl) (fun _ _ _ h => h) (Or.inl ⟨by rfl, fun w _ => by go_simp⟩) hHeld ?_
    simp only [Act.put, List.setIfInBounds_toArray, List.set_cons_zero, List.set_cons_succ]
    refine wpAnyH_take (i := 34) (oi := ⟨some 8, .assign (.tmp 78), _, _, _, none⟩) (v := .bool true) rfl (by kernel_rfl) (by kernel_rfl) (by kernel_rfl) (fun _ _ _ h => h) (Or.inl ⟨by rfl, fun _ _ => rfl⟩) hHeld ?_
    simp only [Act.put, List.setIfInBounds_toArray, List.set_cons_zero, List.set_cons_succ]
    refine wpAnyH_done (by kernel_rfl) ?_ _
    clear hHeld
    go_wp2
    go_ret
    exact ⟨rfl, lw⟩

set_option maxRecDepth 100000 in
theorem clockRingsAsSpecified_lifted (os : Os) (started : os.Started) (H : Type) (enc : TypeId × Value → H) :
    ReturnsInHanded {} Try.checked os 4 .any (Rows.clockRingsAsSpecifiedSpec.pre6 enc Try.prog Try.f4 Rows.clockRingsAsSpecifiedRow.domain false) (Rows.clockRingsAsSpecifiedSpec.post enc Try.prog Try.f4 false true false false) := by
  refine returnsInHanded_of_change (C := Try.checked) ownK started (by kernel_rfl) Try.func4
    (ChangeSpec.witness6 (enc := enc) (C := Try.checked) false ⟨#[], #[.agg #[.int .i64 0, .bool false, .bool false, .bool false, .bool false, .int .i64 0, .int .i64 0, .int .i64 0, .int .i64 0, .int .i64 0, .int .i64 0, .int .i64 0, .int .i64 0], .int .i64 0, .int .i64 0, .int .u32 0], []⟩ 8 (by kernel_rfl) (by kernel_rfl) (by kernel_rfl) (by kernel_rfl)) ?_
  intro W base args ds gs before hval0 hW hcnd _
  have hval : ∀ (j : Nat) t v, Try.f4.params[j]? = some t → args[j]? = some v → Value.okWide Try.prog W .any base t v := hval0
  have hW' := hW
  obtain ⟨p, q, hA0, hV, rfl, hfz, hnd⟩ := hW
  have hA : DataW.TrodAll enc Try.prog W 0 (fun _ => true) true Try.f4.params.toList args.toList ds p := hA0
  rw [Try.params4] at hA hval
  obtain ⟨v0, vs0, d0, ds0, p0, q0, hargs, rfl, rfl, h0, r0⟩ := trodAll_cons hA
  obtain ⟨v1, vs1, d1, ds1, p1, q1, rfl, rfl, rfl, h1, r1⟩ := trodAll_cons r0
  obtain ⟨v2, vs2, d2, ds2, p2, q2, rfl, rfl, rfl, h2, r2⟩ := trodAll_cons r1
  obtain ⟨v3, vs3, d3, ds3, p3, q3, rfl, rfl, rfl, h3, r3⟩ := trodAll_cons r2
  obtain ⟨rfl, rfl, rfl⟩ := trodAll_nil r3
  obtain rfl : args = #[v0, v1, v2, v3] := by cases args; simp_all
  obtain ⟨rfl, rfl⟩ := trodVars_none hV
  obtain ⟨a0, rfl, z0⟩ := clk_open (hval 0 25 v0 rfl rfl) h0
  obtain ⟨a1, rfl, z1⟩ := int_arg Try.underlying3 (hval 1 3 v1 rfl rfl) h1
  obtain ⟨a2, rfl, z2⟩ := int_arg Try.underlying3 (hval 2 3 v2 rfl rfl) h2
  obtain ⟨a3, rfl, _, _, w3⟩ := open_int Try.underlying31 (hval 3 31 v3 rfl rfl) h3
  have z3 : 0 ≤ a3 ∧ a3 ≤ 4294967295 := by
    have e1 : IntKind.u32.min = 0 := rfl
    have e2 : IntKind.u32.max = 4294967295 := rfl
    simp only [Lit.wf, Bool.and_eq_true, decide_eq_true_eq] at w3
    omega
  clear hA0 hval0
  simp only [List.append_nil] at hW'
  refine (rings_all a0 a1 a2 a3 W z3).mono fun e W' ⟨he, hw⟩ => ?_
  subst he
  exact ⟨_, rfl, law_post laidK rfl (by kernel_rfl) (by kernel_rfl) Try.underlying4 (by kernel_rfl) hW' rfl hw⟩
set_option maxRecDepth 100000 in
/-- The statement. -/
theorem clockRingsAsSpecified_said : Rows.ClockRingsAsSpecifiedSaid :=
  OpenClaim.holds_of_wide 4 Try.f4 rfl rfl rfl rfl rfl rfl rfl ⟨rfl, rfl, rfl, rfl, rfl⟩ rfl rfl rfl rfl rfl (by kernel_rfl) Try.func4 (by kernel_rfl)
    (of_decide_eq_true (by kernel_rfl)) (by unfold Func.isWrapper; first | (rw [if_pos (by decide +kernel)]; kernel_rfl) | (rw [if_neg (by decide +kernel)]; exact ⟨rfl, rfl⟩))
    (fun os started H enc _ => clockRingsAsSpecified_lifted os started H enc)
#print axioms clockRingsAsSpecified_said
end Go.Proofs.Ytdohocbpjpnmeaa
