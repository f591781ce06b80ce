/-
  THE EXAMPLES OF THE CHAPTER: sanity.
-/
import Derived.Test.YtdohocbpjpnmeaaCloG
import Derived.Deep.RegionHeld
namespace Go.Proofs.Ytdohocbpjpnmeaa
open Go.RowKit Go.ChangeShapes Go.WideShapes Go.ChangeAt

theorem built_0 : Try.prog.built 25 [] = some zK.cells.toArray := by kernel_rfl
theorem run_0 (w : World) : (Instr.build 25 #[]).run Try.prog w = .ok (.agg zK.cells.toArray) w := run_build w _ _ _ built_0
def c1 : Clk := zK.offerC 1 7
def c2 : Clk := c1.readC 1
def c3 : Clk := c2.offerC 0 7
def cd : Clk := c3.setC 2 10 5
def cb : Clk := cd.fireC 2 15
def cl : Clk := c3.setC 2 1099511627775 5
theorem cd_ok : cd.Ok := by
  refine ⟨by decide, by decide, fun k hk => ?_⟩
  rcases (show k = 0 ∨ k = 1 ∨ k = 2 ∨ k = 3 by omega) with rfl | rfl | rfl | rfl <;> exact ⟨by decide, by decide, by decide, by decide⟩
theorem k_o1 (w : World) : Calls Try.prog 13 #[.agg zK.cells.toArray, .int .i64 1, .int .i64 7] w fun e w' => e = .returned (.tuple #[.agg c1.cells.toArray, .int .i64 0]) ∧ Later w w' := by
  have h := offer_any zK 1 7 w
  rw [show zK.offerE 1 7 = 0 from by decide] at h
  exact h
theorem k_r1 (w : World) : Calls Try.prog 14 #[.agg c1.cells.toArray, .int .i64 1] w fun e w' => e = .returned (.tuple #[.agg c2.cells.toArray, .int .u32 7, .int .i64 0]) ∧ Later w w' := by
  have h := read_any c1 1 w
  rw [show c1.readE 1 = 0 from by decide, show c1.readV 1 = 7 from by decide] at h
  exact h
theorem k_r2 (w : World) : Calls Try.prog 14 #[.agg c2.cells.toArray, .int .i64 1] w fun e w' => e = .returned (.tuple #[.agg c2.cells.toArray, .int .u32 0, .int .i64 4]) ∧ Later w w' := by
  have h := read_any c2 1 w
  rw [show c2.readE 1 = 4 from by decide, show c2.readV 1 = 0 from by decide, show c2.readC 1 = c2 from if_neg (by decide)] at h
  exact h
theorem k_o2 (w : World) : Calls Try.prog 13 #[.agg c2.cells.toArray, .int .i64 0, .int .i64 6] w fun e w' => e = .returned (.tuple #[.agg c2.cells.toArray, .int .i64 9]) ∧ Later w w' := by
  have h := offer_any c2 0 6 w
  rw [show c2.offerE 0 6 = 9 from by decide, show c2.offerC 0 6 = c2 from if_neg (by decide)] at h
  exact h
theorem k_o3 (w : World) : Calls Try.prog 13 #[.agg c2.cells.toArray, .int .i64 0, .int .i64 7] w fun e w' => e = .returned (.tuple #[.agg c3.cells.toArray, .int .i64 0]) ∧ Later w w' := by
  have h := offer_any c2 0 7 w
  rw [show c2.offerE 0 7 = 0 from by decide] at h
  exact h
theorem k_o4 (w : World) : Calls Try.prog 13 #[.agg c3.cells.toArray, .int .i64 0, .int .i64 9] w fun e w' => e = .returned (.tuple #[.agg c3.cells.toArray, .int .i64 4]) ∧ Later w w' := by
  have h := offer_any c3 0 9 w
  rw [show c3.offerE 0 9 = 4 from by decide, show c3.offerC 0 9 = c3 from if_neg (by decide)] at h
  exact h
theorem k_s1 (w : World) : Calls Try.prog 17 #[.agg c3.cells.toArray, .int .i64 2, .int .i64 10, .int .u32 5] w fun e w' => e = .returned (.tuple #[.agg cd.cells.toArray, .int .i64 0]) ∧ Later w w' := by
  have h := set_any c3 2 10 5 w ⟨by decide, by decide⟩
  rw [show setE 2 10 = 0 from by decide] at h
  exact h
theorem k_f1 (w : World) : Calls Try.prog 18 #[.agg cd.cells.toArray, .int .i64 2, .int .i64 14] w fun e w' => e = .returned (.tuple #[.agg cd.cells.toArray, .bool false]) ∧ Later w w' := by
  have h := fire_any cd 2 14 w
  rw [show cd.fire 2 14 = false from by decide, show cd.fireC 2 14 = cd from if_neg (by decide)] at h
  exact h
theorem k_f2 (w : World) : Calls Try.prog 18 #[.agg cd.cells.toArray, .int .i64 2, .int .i64 15] w fun e w' => e = .returned (.tuple #[.agg cb.cells.toArray, .bool true]) ∧ Later w w' := by
  have h := fire_any cd 2 15 w
  rw [show cd.fire 2 15 = true from by decide] at h
  exact h
theorem k_f3 (w : World) : Calls Try.prog 18 #[.agg cb.cells.toArray, .int .i64 2, .int .i64 15] w fun e w' => e = .returned (.tuple #[.agg cb.cells.toArray, .bool false]) ∧ Later w w' := by
  have h := fire_any cb 2 15 w
  rw [show cb.fire 2 15 = false from by decide, show cb.fireC 2 15 = cb from if_neg (by decide)] at h
  exact h
theorem k_s2 (w : World) : Calls Try.prog 17 #[.agg c3.cells.toArray, .int .i64 2, .int .i64 1099511627775, .int .u32 5] w fun e w' => e = .returned (.tuple #[.agg cl.cells.toArray, .int .i64 0]) ∧ Later w w' := by
  have h := set_any c3 2 1099511627775 5 w ⟨by decide, by decide⟩
  rw [show setE 2 1099511627775 = 0 from by decide] at h
  exact h
theorem k_n1 (w : World) : Calls Try.prog 21 #[.agg cd.cells.toArray, .int .i64 2] w fun e w' => e = .returned (.int .i64 15) ∧ Later w w' := by
  have h := next_any cd 2 w
  rw [show cd.next 2 = 15 from by decide] at h
  exact h
theorem k_n2 (w : World) : Calls Try.prog 21 #[.agg cl.cells.toArray, .int .i64 2] w fun e w' => e = .returned (.int .i64 1099511627776) ∧ Later w w' := by
  have h := next_any cl 2 w
  rw [show cl.next 2 = 1099511627776 from by decide] at h
  exact h
theorem k_v (w : World) : Calls Try.prog 11 #[.agg cd.cells.toArray] w fun e w' => e = .returned (.bool true) ∧ Later w w' := valid_any cd true w (by simp [cd_ok])
set_option maxRecDepth 100000 in
set_option maxHeartbeats 8000000 in
theorem sanity_any (w : World) : Calls Try.prog 12 #[] w fun e w' => e = .returned (.bool true) ∧ Later w w' := by
  go_enter Try.func12, Try.ntmps12
  go_upto_region 2 with (first
    | ((with_reducible refine wpList_bld (o := ⟨some 24, .build 25 #[], _, _, _, none⟩) rfl _ #[] #[] zK.cells.toArray rfl ?_ (run_0 _) ?_); rfl)
    | (go_at_call 13; (with_reducible refine (k_o1 _).mono ?_); rintro e w1 ⟨rfl, lw⟩; have hlt : w.heap.size ≤ w1.heap.size := lw.size)
    | ((with_reducible refine wpList_store_abs (o := ⟨none, .store 25 (.tmp 1) (.tmp 26), _, _, _, none⟩) rfl _ _ _ rfl w1.heap.size 25 zK.cells c1.cells ?_ ?_ ?_ ?_ ?_ ?_ ?_); rfl; rfl; exact (Blk.new _ _ _ _ rfl); exact clk_sz _; rfl; exact clk_one _; intro u1 b1 ob1; replace lw := Below.only (lw.alloc lw.size (.cells zK.cells.toArray 25)) ob1 lw.size; clear ob1))
  go_upto_region 4 with (first
    | ((with_reducible refine wpList_load_blk (o := ⟨some 29, .load 25 (.tmp 1), _, _, _, none⟩) rfl _ _ rfl w1.heap.size 25 c1.cells _ ?_ ?_ Try.underlying25 rfl (clk_sz _) ?_); rfl; exact b1)
    | (go_at_call 14; (with_reducible refine (k_r1 _).mono ?_); rintro e w2 ⟨rfl, l1⟩; replace b1 := b1.keep l1; replace lw := Later.trans_ lw l1)
    | ((with_reducible refine wpList_store_abs (o := ⟨none, .store 25 (.tmp 1) (.tmp 31), _, _, _, none⟩) rfl _ _ _ rfl w1.heap.size 25 c1.cells c2.cells ?_ ?_ ?_ ?_ ?_ ?_ ?_); rfl; rfl; exact b1; exact clk_sz _; rfl; exact clk_one _; intro u2 bq oq; clear b1; have b1 := bq; clear bq; replace lw := Below.only lw oq hlt; clear oq)
    | ((with_reducible refine wpList_load_blk (o := ⟨some 35, .load 25 (.tmp 1), _, _, _, none⟩) rfl _ _ rfl w1.heap.size 25 c2.cells _ ?_ ?_ Try.underlying25 rfl (clk_sz _) ?_); rfl; exact b1)
    | (go_at_call 14; (with_reducible refine (k_r2 _).mono ?_); rintro e w3 ⟨rfl, l1⟩; replace b1 := b1.keep l1; replace lw := Later.trans_ lw l1)
    | ((with_reducible refine wpList_store_abs (o := ⟨none, .store 25 (.tmp 5) (.tmp 37), _, _, _, none⟩) rfl _ _ _ rfl w3.heap.size 25 zK.cells c2.cells ?_ ?_ ?_ ?_ ?_ ?_ ?_); rfl; rfl; exact (Blk.new _ _ _ _ rfl); exact clk_sz _; rfl; exact clk_one _; intro u3 bz obz; replace b1 := (b1.alloc (.cells zK.cells.toArray 25)).only obz (Nat.ne_of_lt b1.lt); replace lw := Below.only (lw.alloc lw.size (.cells zK.cells.toArray 25)) obz lw.size; clear obz; clear bz))
  go_upto_region 6 with (first
    | ((with_reducible refine wpList_load_blk (o := ⟨some 41, .load 25 (.tmp 1), _, _, _, none⟩) rfl _ _ rfl w1.heap.size 25 c2.cells _ ?_ ?_ Try.underlying25 rfl (clk_sz _) ?_); rfl; exact b1)
    | (go_at_call 13; (with_reducible refine (k_o2 _).mono ?_); rintro e w4 ⟨rfl, l1⟩; replace b1 := b1.keep l1; replace lw := Later.trans_ lw l1)
    | ((with_reducible refine wpList_store_abs (o := ⟨none, .store 25 (.tmp 8) (.tmp 43), _, _, _, none⟩) rfl _ _ _ rfl w4.heap.size 25 zK.cells c2.cells ?_ ?_ ?_ ?_ ?_ ?_ ?_); rfl; rfl; exact (Blk.new _ _ _ _ rfl); exact clk_sz _; rfl; exact clk_one _; intro u4 bz obz; replace b1 := (b1.alloc (.cells zK.cells.toArray 25)).only obz (Nat.ne_of_lt b1.lt); replace lw := Below.only (lw.alloc lw.size (.cells zK.cells.toArray 25)) obz lw.size; clear obz; clear bz)
    | ((with_reducible refine wpList_load_blk (o := ⟨some 46, .load 25 (.tmp 1), _, _, _, none⟩) rfl _ _ rfl w1.heap.size 25 c2.cells _ ?_ ?_ Try.underlying25 rfl (clk_sz _) ?_); rfl; exact b1)
    | (go_at_call 13; (with_reducible refine (k_o3 _).mono ?_); rintro e w5 ⟨rfl, l1⟩; replace b1 := b1.keep l1; replace lw := Later.trans_ lw l1)
    | ((with_reducible refine wpList_store_abs (o := ⟨none, .store 25 (.tmp 1) (.tmp 48), _, _, _, none⟩) rfl _ _ _ rfl w1.heap.size 25 c2.cells c3.cells ?_ ?_ ?_ ?_ ?_ ?_ ?_); rfl; rfl; exact b1; exact clk_sz _; rfl; exact clk_one _; intro u5 bq oq; clear b1; have b1 := bq; clear bq; replace lw := Below.only lw oq hlt; clear oq))
  go_upto_region 9 with (first
    | ((with_reducible refine wpList_load_blk (o := ⟨some 51, .load 25 (.tmp 1), _, _, _, none⟩) rfl _ _ rfl w1.heap.size 25 c3.cells _ ?_ ?_ Try.underlying25 rfl (clk_sz _) ?_); rfl; exact b1)
    | (go_at_call 13; (with_reducible refine (k_o4 _).mono ?_); rintro e w6 ⟨rfl, l1⟩; replace b1 := b1.keep l1; replace lw := Later.trans_ lw l1)
    | ((with_reducible refine wpList_store_abs (o := ⟨none, .store 25 (.tmp 11) (.tmp 53), _, _, _, none⟩) rfl _ _ _ rfl w6.heap.size 25 zK.cells c3.cells ?_ ?_ ?_ ?_ ?_ ?_ ?_); rfl; rfl; exact (Blk.new _ _ _ _ rfl); exact clk_sz _; rfl; exact clk_one _; intro u6 bz obz; replace b1 := (b1.alloc (.cells zK.cells.toArray 25)).only obz (Nat.ne_of_lt b1.lt); replace lw := Below.only (lw.alloc lw.size (.cells zK.cells.toArray 25)) obz lw.size; clear obz; clear bz))
  go_upto_region 11 with (first
    | ((with_reducible refine wpList_load_blk (o := ⟨some 82, .load 25 (.tmp 1), _, _, _, none⟩) rfl _ _ rfl w1.heap.size 25 c3.cells _ ?_ ?_ Try.underlying25 rfl (clk_sz _) ?_); rfl; exact b1)
    | (go_at_call 17; (with_reducible refine (k_s1 _).mono ?_); rintro e w7 ⟨rfl, l1⟩; replace b1 := b1.keep l1; replace lw := Later.trans_ lw l1)
    | ((with_reducible refine wpList_store_abs (o := ⟨none, .store 25 (.tmp 13) (.tmp 84), _, _, _, none⟩) rfl _ _ _ rfl w7.heap.size 25 zK.cells cd.cells ?_ ?_ ?_ ?_ ?_ ?_ ?_); rfl; rfl; exact (Blk.new _ _ _ _ rfl); exact clk_sz _; rfl; exact clk_one _; intro u7 b13 ob13; replace b1 := (b1.alloc (.cells zK.cells.toArray 25)).only ob13 (Nat.ne_of_lt b1.lt); replace lw := Below.only (lw.alloc lw.size (.cells zK.cells.toArray 25)) ob13 lw.size; clear ob13)
    | ((with_reducible refine wpList_load_blk (o := ⟨some 87, .load 25 (.tmp 13), _, _, _, none⟩) rfl _ _ rfl w7.heap.size 25 cd.cells _ ?_ ?_ Try.underlying25 rfl (clk_sz _) ?_); rfl; exact b13)
    | (go_at_call 18; (with_reducible refine (k_f1 _).mono ?_); rintro e w8 ⟨rfl, l1⟩; replace b1 := b1.keep l1; replace b13 := b13.keep l1; replace lw := Later.trans_ lw l1)
    | ((with_reducible refine wpList_store_abs (o := ⟨none, .store 25 (.tmp 15) (.tmp 89), _, _, _, none⟩) rfl _ _ _ rfl w8.heap.size 25 zK.cells cd.cells ?_ ?_ ?_ ?_ ?_ ?_ ?_); rfl; rfl; exact (Blk.new _ _ _ _ rfl); exact clk_sz _; rfl; exact clk_one _; intro u8 bz obz; replace b1 := (b1.alloc (.cells zK.cells.toArray 25)).only obz (Nat.ne_of_lt b1.lt); replace b13 := (b13.alloc (.cells zK.cells.toArray 25)).only obz (Nat.ne_of_lt b13.lt); replace lw := Below.only (lw.alloc lw.size (.cells zK.cells.toArray 25)) obz lw.size; clear obz; clear bz))
  go_upto_region 13 with (first
    | ((with_reducible refine wpList_load_blk (o := ⟨some 92, .load 25 (.tmp 13), _, _, _, none⟩) rfl _ _ rfl w7.heap.size 25 cd.cells _ ?_ ?_ Try.underlying25 rfl (clk_sz _) ?_); rfl; exact b13)
    | (go_at_call 18; (with_reducible refine (k_f2 _).mono ?_); rintro e w9 ⟨rfl, l1⟩; replace b1 := b1.keep l1; replace b13 := b13.keep l1; replace lw := Later.trans_ lw l1)
    | ((with_reducible refine wpList_store_abs (o := ⟨none, .store 25 (.tmp 17) (.tmp 94), _, _, _, none⟩) rfl _ _ _ rfl w9.heap.size 25 zK.cells cb.cells ?_ ?_ ?_ ?_ ?_ ?_ ?_); rfl; rfl; exact (Blk.new _ _ _ _ rfl); exact clk_sz _; rfl; exact clk_one _; intro u9 b17 ob17; replace b1 := (b1.alloc (.cells zK.cells.toArray 25)).only ob17 (Nat.ne_of_lt b1.lt); replace b13 := (b13.alloc (.cells zK.cells.toArray 25)).only ob17 (Nat.ne_of_lt b13.lt); replace lw := Below.only (lw.alloc lw.size (.cells zK.cells.toArray 25)) ob17 lw.size; clear ob17)
    | ((with_reducible refine wpList_load_blk (o := ⟨some 97, .load 25 (.tmp 17), _, _, _, none⟩) rfl _ _ rfl w9.heap.size 25 cb.cells _ ?_ ?_ Try.underlying25 rfl (clk_sz _) ?_); rfl; exact b17)
    | (go_at_call 18; (with_reducible refine (k_f3 _).mono ?_); rintro e wa ⟨rfl, l1⟩; replace b1 := b1.keep l1; replace b13 := b13.keep l1; replace b17 := b17.keep l1; replace lw := Later.trans_ lw l1)
    | ((with_reducible refine wpList_store_abs (o := ⟨none, .store 25 (.tmp 19) (.tmp 99), _, _, _, none⟩) rfl _ _ _ rfl wa.heap.size 25 zK.cells cb.cells ?_ ?_ ?_ ?_ ?_ ?_ ?_); rfl; rfl; exact (Blk.new _ _ _ _ rfl); exact clk_sz _; rfl; exact clk_one _; intro ua bz obz; replace b1 := (b1.alloc (.cells zK.cells.toArray 25)).only obz (Nat.ne_of_lt b1.lt); replace b13 := (b13.alloc (.cells zK.cells.toArray 25)).only obz (Nat.ne_of_lt b13.lt); replace b17 := (b17.alloc (.cells zK.cells.toArray 25)).only obz (Nat.ne_of_lt b17.lt); replace lw := Below.only (lw.alloc lw.size (.cells zK.cells.toArray 25)) obz lw.size; clear obz; clear bz))
  go_upto_region 14 with (first
    | ((with_reducible refine wpList_load_blk (o := ⟨some 102, .load 25 (.tmp 1), _, _, _, none⟩) rfl _ _ rfl w1.heap.size 25 c3.cells _ ?_ ?_ Try.underlying25 rfl (clk_sz _) ?_); rfl; exact b1)
    | (go_at_call 17; (with_reducible refine (k_s2 _).mono ?_); rintro e wb ⟨rfl, l1⟩; replace b1 := b1.keep l1; replace b13 := b13.keep l1; replace b17 := b17.keep l1; replace lw := Later.trans_ lw l1)
    | ((with_reducible refine wpList_store_abs (o := ⟨none, .store 25 (.tmp 21) (.tmp 104), _, _, _, none⟩) rfl _ _ _ rfl wb.heap.size 25 zK.cells cl.cells ?_ ?_ ?_ ?_ ?_ ?_ ?_); rfl; rfl; exact (Blk.new _ _ _ _ rfl); exact clk_sz _; rfl; exact clk_one _; intro ub b21 ob21; replace b1 := (b1.alloc (.cells zK.cells.toArray 25)).only ob21 (Nat.ne_of_lt b1.lt); replace b13 := (b13.alloc (.cells zK.cells.toArray 25)).only ob21 (Nat.ne_of_lt b13.lt); replace b17 := (b17.alloc (.cells zK.cells.toArray 25)).only ob21 (Nat.ne_of_lt b17.lt); replace lw := Below.only (lw.alloc lw.size (.cells zK.cells.toArray 25)) ob21 lw.size; clear ob21))
  clear b1 b17
  go_wp2_with (first
    | ((with_reducible refine wpList_load_g (o := ⟨some 109, .load 25 (.tmp 13), _, _, _, _⟩) _ _ rfl w7.heap.size 25 cd.cells _ ?_ ?_ ?_ Try.underlying25 ?_ (clk_sz _) ?_); rfl; rfl; exact b13; rfl)
    | (go_at_call 21; (with_reducible refine (k_n1 _).mono ?_); rintro e wc ⟨rfl, l1⟩; replace b13 := b13.keep l1; replace b21 := b21.keep l1; replace lw := Later.trans_ lw l1)
    | ((with_reducible refine wpList_load_g (o := ⟨some 129, .load 25 (.tmp 21), _, _, _, _⟩) _ _ rfl wb.heap.size 25 cl.cells _ ?_ ?_ ?_ Try.underlying25 ?_ (clk_sz _) ?_); rfl; rfl; exact b21; rfl)
    | (go_at_call 21; (with_reducible refine (k_n2 _).mono ?_); rintro e we ⟨rfl, l1⟩; replace b13 := b13.keep l1; replace b21 := b21.keep l1; replace lw := Later.trans_ lw l1)
    | ((with_reducible refine wpList_load_g (o := ⟨some 134, .load 25 (.tmp 13), _, _, _, _⟩) _ _ rfl w7.heap.size 25 cd.cells _ ?_ ?_ ?_ Try.underlying25 ?_ (clk_sz _) ?_); rfl; rfl; exact b13; rfl)
    | (go_at_call 11; (with_reducible refine (k_v _).mono ?_); rintro e wf ⟨rfl, l1⟩; replace b13 := b13.keep l1; replace b21 := b21.keep l1; replace lw := Later.trans_ lw l1))
  go_ret
  exact ⟨rfl, lw⟩
end Go.Proofs.Ytdohocbpjpnmeaa
