/-
  THE STATEMENT TrapWritesStay: a write changes its register alone, and is read back; for every processor, register and word.
-/
import Derived.Test.YtkknobonpejgbaaTrapZ2
namespace Go.Proofs.Ytkknobonpejgbaa
open Go.RowKit Go.ChangeShapes Go.WideShapes Go.ChangeAt

theorem write_no {x : Cpu} {n v : Int} (hn : n = 7 ∨ n = 8) (hv : Tm.isE v) (w : World) : Calls Try.prog 24 #[.agg x.cells.toArray, .int .i64 n, .int .u32 v] w fun e w' => e = .returned (.tuple #[.agg x.cells.toArray, .int .i64 1]) ∧ Later w w' := by
  have h := write_any x n v w hv
  rwa [(put_out (x := x) (v := v) (show ¬ (0 ≤ n ∧ n < 7) by omega)).1, (put_out (x := x) (v := v) (show ¬ (0 ≤ n ∧ n < 7) by omega)).2] at h
set_option maxRecDepth 100000 in
theorem writes_bad (x : Cpu) (n v : Int) (w : World) (hv : okC x.r0 x.c5 x.c7 x.c8 x.wt x.hl x.cn = false) :
    Calls Try.prog 9 #[.agg x.cells.toArray, .int .u8 n, .int .u32 v] w fun e w' => e = .returned (.bool true) ∧ Later w w' := by
  have KS := Lib.hid fun w' => sanity_any w'
  have b4 := Blk.new w 26 x.cells.toArray x.cells rfl
  have lw := later1 w (.cells x.cells.toArray 26)
  have KV := Lib.hid fun w' => rvalid_is hv w'
  clear hv
  go_enter Try.func9, Try.ntmps9
  go_wp2_with (first
    | ((with_reducible refine wpList_load_blk (o := ⟨some 13, .load 26 (.tmp 3), _, _, _, none⟩) rfl _ _ rfl w.heap.size 26 x.cells _ ?_ ?_ Try.underlying26 rfl (cpu_sz _) ?_); rfl; exact b4)
    | (go_at_call 11; (with_reducible refine (KV.out _).mono ?_); rintro e w1 ⟨rfl, l1⟩; replace b4 := b4.keep l1; replace lw := Later.trans_ lw l1)
    | (go_at_call 14; (with_reducible refine (KS.out _).mono ?_); rintro e w2 ⟨rfl, l2⟩; replace b4 := b4.keep l2; replace lw := Later.trans_ lw l2))
  go_ret
  exact ⟨rfl, lw⟩
set_option maxRecDepth 100000 in
set_option maxHeartbeats 2000000 in
theorem writes_0 (x : Cpu) (n v : Int) (w : World) (hz : Tm.isE v) (hv : okC x.r0 x.c5 x.c7 x.c8 x.wt x.hl x.cn = true) (hn : n.tmod 9 = 0) :
    Calls Try.prog 9 #[.agg x.cells.toArray, .int .u8 n, .int .u32 v] w fun e w' => e = .returned (.bool true) ∧ Later w w' := by
  have KS := Lib.hid fun w' => sanity_any w'
  have b4 := Blk.new w 26 x.cells.toArray x.cells rfl
  have lw := later1 w (.cells x.cells.toArray 26)
  have KV := Lib.hid fun w' => rvalid_is hv w'
  obtain ⟨y, hy0⟩ : ∃ y : Cpu, y = { x with c0 := v } := ⟨_, rfl⟩
  have KW := Lib.hid fun w' => write_is (x := x) (y := y) (n := 0) (v := v) (by omega) hz (by rw [hy0]; rfl) w'
  have KR := Lib.hid fun w' => read_is (x := y) (n := 0) (v := v) (by omega) (by rw [hy0]; rfl) w'
  obtain ⟨g0, g1, g2, g3, g4, g5, g6⟩ := okC_parts hv
  have KY := Lib.hid fun w' => valid_is (x := y) (b := true) (by rw [hy0]; exact okC_mk g0 (by exact g1) g2 g3 g4 g5 g6) w'
  have hy := Lib.hid hy0
  have heq := cpu_same x
  have hand := and7 hz
  clear hv hz hy0 g0 g1 g2 g3 g4 g5 g6
  go_enter Try.func9, Try.ntmps9
  go_wp2_with (first
    | ((with_reducible refine wpList_load_blk (o := ⟨some 13, .load 26 (.tmp 3), _, _, _, none⟩) rfl _ _ rfl w.heap.size 26 x.cells _ ?_ ?_ Try.underlying26 rfl (cpu_sz _) ?_); rfl; exact b4)
    | (go_at_call 11; (with_reducible refine (KV.out _).mono ?_); rintro e w1 ⟨rfl, l1⟩; replace b4 := b4.keep l1; replace lw := Later.trans_ lw l1)
    | ((with_reducible refine wpList_load_blk (o := ⟨some 22, .load 26 (.tmp 3), _, _, _, none⟩) rfl _ _ rfl w.heap.size 26 x.cells _ ?_ ?_ Try.underlying26 rfl (cpu_sz _) ?_); rfl; exact b4)
    | (go_at_call 24; (with_reducible refine (KW.out _).mono ?_); rintro e w2 ⟨rfl, l2⟩; replace b4 := b4.keep l2; replace lw := Later.trans_ lw l2)
    | ((with_reducible refine wpList_store_abs (o := ⟨none, .store 26 (.tmp 9) (.tmp 26), _, _, _, none⟩) rfl _ _ _ rfl w2.heap.size 26 zC.cells y.cells ?_ ?_ ?_ ?_ ?_ ?_ ?_); rfl; rfl; exact (Blk.new _ _ _ _ rfl); exact cpu_sz _; rfl; exact cpu_one _; have nab4 := Nat.ne_of_lt b4.lt; have ma := lw.size; intro v2 b9 o2; replace b4 := (b4.alloc (.cells zC.cells.toArray 26)).only o2 (Nat.ne_of_lt b4.lt); replace lw := Below.only (lw.alloc lw.size (.cells zC.cells.toArray 26)) o2 lw.size)
    | ((with_reducible refine wpList_load_blk (o := ⟨some 46, .load 26 (.tmp 9), _, _, _, none⟩) rfl _ _ rfl w2.heap.size 26 y.cells _ ?_ ?_ Try.underlying26 rfl (cpu_sz _) ?_); rfl; exact b9)
    | (go_at_call 23; (with_reducible refine (KR.out _).mono ?_); rintro e w3 ⟨rfl, l3⟩; replace b4 := b4.keep l3; replace b9 := b9.keep l3; replace lw := Later.trans_ lw l3)
    | ((with_reducible refine wpList_load_g (o := ⟨some 54, .load 26 (.tmp 9), _, _, _, _⟩) _ _ rfl w2.heap.size 26 y.cells _ ?_ ?_ ?_ Try.underlying26 ?_ (cpu_sz _) ?_); rfl; rfl; exact b9; rfl)
    | (go_at_call 10; (with_reducible refine (KY.out _).mono ?_); rintro e w4 ⟨rfl, l4⟩; replace b4 := b4.keep l4; replace b9 := b9.keep l4; replace lw := Later.trans_ lw l4; have e1 := b9.cell (j := 17) (v := .int .u32 y.c0) rfl; have f1 := b9.frz 17; have e2 := b4.cell (j := 17) (v := .int .u32 x.c0) rfl)
    | (go_at_call 14; replace b9 : Blk _ w2.heap.size 26 x.cells := (by have h := (b9.set 17 (.int .u32 x.c0)); rw [hy.out] at h; exact h); replace b4 := (b4.set_other ⟨w2.heap.size, 17, none⟩ (.int .u32 x.c0) nab4); replace lw := (lw.setCell (p := ⟨w2.heap.size, 17, none⟩) ma (.int .u32 x.c0)); clear e1 f1 e2; (with_reducible refine (KS.out _).mono ?_); rintro e w5 ⟨rfl, l5⟩; replace b4 := b4.keep l5; replace b9 := b9.keep l5; replace lw := Later.trans_ lw l5)
    | ((with_reducible refine wpList_load_g (o := ⟨some 86, .load 26 (.tmp 9), _, _, _, _⟩) _ _ rfl w2.heap.size 26 x.cells _ ?_ ?_ ?_ Try.underlying26 ?_ (cpu_sz _) ?_); rfl; rfl; exact b9; rfl)
    | ((with_reducible refine wpList_load_g (o := ⟨some 87, .load 26 (.tmp 3), _, _, _, _⟩) _ _ rfl w.heap.size 26 x.cells _ ?_ ?_ ?_ Try.underlying26 ?_ (cpu_sz _) ?_); rfl; rfl; exact b4; rfl))
  go_ret
  exact ⟨rfl, lw⟩
set_option maxRecDepth 100000 in
set_option maxHeartbeats 2000000 in
theorem writes_1 (x : Cpu) (n v : Int) (w : World) (hz : Tm.isE v) (hv : okC x.r0 x.c5 x.c7 x.c8 x.wt x.hl x.cn = true) (hn : n.tmod 9 = 1) :
    Calls Try.prog 9 #[.agg x.cells.toArray, .int .u8 n, .int .u32 v] w fun e w' => e = .returned (.bool true) ∧ Later w w' := by
  have KS := Lib.hid fun w' => sanity_any w'
  have b4 := Blk.new w 26 x.cells.toArray x.cells rfl
  have lw := later1 w (.cells x.cells.toArray 26)
  have KV := Lib.hid fun w' => rvalid_is hv w'
  obtain ⟨y, hy0⟩ : ∃ y : Cpu, y = { x with c1 := v } := ⟨_, rfl⟩
  have KW := Lib.hid fun w' => write_is (x := x) (y := y) (n := 1) (v := v) (by omega) hz (by rw [hy0]; rfl) w'
  have KR := Lib.hid fun w' => read_is (x := y) (n := 1) (v := v) (by omega) (by rw [hy0]; rfl) w'
  obtain ⟨g0, g1, g2, g3, g4, g5, g6⟩ := okC_parts hv
  have KY := Lib.hid fun w' => valid_is (x := y) (b := true) (by rw [hy0]; exact okC_mk g0 (by exact g1) g2 g3 g4 g5 g6) w'
  have hy := Lib.hid hy0
  have heq := cpu_same x
  have hand := and7 hz
  clear hv hz hy0 g0 g1 g2 g3 g4 g5 g6
  go_enter Try.func9, Try.ntmps9
  go_wp2_with (first
    | ((with_reducible refine wpList_load_blk (o := ⟨some 13, .load 26 (.tmp 3), _, _, _, none⟩) rfl _ _ rfl w.heap.size 26 x.cells _ ?_ ?_ Try.underlying26 rfl (cpu_sz _) ?_); rfl; exact b4)
    | (go_at_call 11; (with_reducible refine (KV.out _).mono ?_); rintro e w1 ⟨rfl, l1⟩; replace b4 := b4.keep l1; replace lw := Later.trans_ lw l1)
    | ((with_reducible refine wpList_load_blk (o := ⟨some 22, .load 26 (.tmp 3), _, _, _, none⟩) rfl _ _ rfl w.heap.size 26 x.cells _ ?_ ?_ Try.underlying26 rfl (cpu_sz _) ?_); rfl; exact b4)
    | (go_at_call 24; (with_reducible refine (KW.out _).mono ?_); rintro e w2 ⟨rfl, l2⟩; replace b4 := b4.keep l2; replace lw := Later.trans_ lw l2)
    | ((with_reducible refine wpList_store_abs (o := ⟨none, .store 26 (.tmp 9) (.tmp 26), _, _, _, none⟩) rfl _ _ _ rfl w2.heap.size 26 zC.cells y.cells ?_ ?_ ?_ ?_ ?_ ?_ ?_); rfl; rfl; exact (Blk.new _ _ _ _ rfl); exact cpu_sz _; rfl; exact cpu_one _; have nab4 := Nat.ne_of_lt b4.lt; have ma := lw.size; intro v2 b9 o2; replace b4 := (b4.alloc (.cells zC.cells.toArray 26)).only o2 (Nat.ne_of_lt b4.lt); replace lw := Below.only (lw.alloc lw.size (.cells zC.cells.toArray 26)) o2 lw.size)
    | ((with_reducible refine wpList_load_blk (o := ⟨some 46, .load 26 (.tmp 9), _, _, _, none⟩) rfl _ _ rfl w2.heap.size 26 y.cells _ ?_ ?_ Try.underlying26 rfl (cpu_sz _) ?_); rfl; exact b9)
    | (go_at_call 23; (with_reducible refine (KR.out _).mono ?_); rintro e w3 ⟨rfl, l3⟩; replace b4 := b4.keep l3; replace b9 := b9.keep l3; replace lw := Later.trans_ lw l3)
    | ((with_reducible refine wpList_load_g (o := ⟨some 54, .load 26 (.tmp 9), _, _, _, _⟩) _ _ rfl w2.heap.size 26 y.cells _ ?_ ?_ ?_ Try.underlying26 ?_ (cpu_sz _) ?_); rfl; rfl; exact b9; rfl)
    | (go_at_call 10; (with_reducible refine (KY.out _).mono ?_); rintro e w4 ⟨rfl, l4⟩; replace b4 := b4.keep l4; replace b9 := b9.keep l4; replace lw := Later.trans_ lw l4; have e1 := b9.cell (j := 18) (v := .int .u32 y.c1) rfl; have f1 := b9.frz 18; have e2 := b4.cell (j := 18) (v := .int .u32 x.c1) rfl)
    | (go_at_call 14; replace b9 : Blk _ w2.heap.size 26 x.cells := (by have h := (b9.set 18 (.int .u32 x.c1)); rw [hy.out] at h; exact h); replace b4 := (b4.set_other ⟨w2.heap.size, 18, none⟩ (.int .u32 x.c1) nab4); replace lw := (lw.setCell (p := ⟨w2.heap.size, 18, none⟩) ma (.int .u32 x.c1)); clear e1 f1 e2; (with_reducible refine (KS.out _).mono ?_); rintro e w5 ⟨rfl, l5⟩; replace b4 := b4.keep l5; replace b9 := b9.keep l5; replace lw := Later.trans_ lw l5)
    | ((with_reducible refine wpList_load_g (o := ⟨some 86, .load 26 (.tmp 9), _, _, _, _⟩) _ _ rfl w2.heap.size 26 x.cells _ ?_ ?_ ?_ Try.underlying26 ?_ (cpu_sz _) ?_); rfl; rfl; exact b9; rfl)
    | ((with_reducible refine wpList_load_g (o := ⟨some 87, .load 26 (.tmp 3), _, _, _, _⟩) _ _ rfl w.heap.size 26 x.cells _ ?_ ?_ ?_ Try.underlying26 ?_ (cpu_sz _) ?_); rfl; rfl; exact b4; rfl))
  go_ret
  exact ⟨rfl, lw⟩
set_option maxRecDepth 100000 in
set_option maxHeartbeats 2000000 in
theorem writes_2 (x : Cpu) (n v : Int) (w : World) (hz : Tm.isE v) (hv : okC x.r0 x.c5 x.c7 x.c8 x.wt x.hl x.cn = true) (hn : n.tmod 9 = 2) :
    Calls Try.prog 9 #[.agg x.cells.toArray, .int .u8 n, .int .u32 v] w fun e w' => e = .returned (.bool true) ∧ Later w w' := by
  have KS := Lib.hid fun w' => sanity_any w'
  have b4 := Blk.new w 26 x.cells.toArray x.cells rfl
  have lw := later1 w (.cells x.cells.toArray 26)
  have KV := Lib.hid fun w' => rvalid_is hv w'
  obtain ⟨y, hy0⟩ : ∃ y : Cpu, y = { x with c2 := v } := ⟨_, rfl⟩
  have KW := Lib.hid fun w' => write_is (x := x) (y := y) (n := 2) (v := v) (by omega) hz (by rw [hy0]; rfl) w'
  have KR := Lib.hid fun w' => read_is (x := y) (n := 2) (v := v) (by omega) (by rw [hy0]; rfl) w'
  obtain ⟨g0, g1, g2, g3, g4, g5, g6⟩ := okC_parts hv
  have KY := Lib.hid fun w' => valid_is (x := y) (b := true) (by rw [hy0]; exact okC_mk g0 (by exact g1) g2 g3 g4 g5 g6) w'
  have hy := Lib.hid hy0
  have heq := cpu_same x
  have hand := and7 hz
  clear hv hz hy0 g0 g1 g2 g3 g4 g5 g6
  go_enter Try.func9, Try.ntmps9
  go_wp2_with (first
    | ((with_reducible refine wpList_load_blk (o := ⟨some 13, .load 26 (.tmp 3), _, _, _, none⟩) rfl _ _ rfl w.heap.size 26 x.cells _ ?_ ?_ Try.underlying26 rfl (cpu_sz _) ?_); rfl; exact b4)
    | (go_at_call 11; (with_reducible refine (KV.out _).mono ?_); rintro e w1 ⟨rfl, l1⟩; replace b4 := b4.keep l1; replace lw := Later.trans_ lw l1)
    | ((with_reducible refine wpList_load_blk (o := ⟨some 22, .load 26 (.tmp 3), _, _, _, none⟩) rfl _ _ rfl w.heap.size 26 x.cells _ ?_ ?_ Try.underlying26 rfl (cpu_sz _) ?_); rfl; exact b4)
    | (go_at_call 24; (with_reducible refine (KW.out _).mono ?_); rintro e w2 ⟨rfl, l2⟩; replace b4 := b4.keep l2; replace lw := Later.trans_ lw l2)
    | ((with_reducible refine wpList_store_abs (o := ⟨none, .store 26 (.tmp 9) (.tmp 26), _, _, _, none⟩) rfl _ _ _ rfl w2.heap.size 26 zC.cells y.cells ?_ ?_ ?_ ?_ ?_ ?_ ?_); rfl; rfl; exact (Blk.new _ _ _ _ rfl); exact cpu_sz _; rfl; exact cpu_one _; have nab4 := Nat.ne_of_lt b4.lt; have ma := lw.size; intro v2 b9 o2; replace b4 := (b4.alloc (.cells zC.cells.toArray 26)).only o2 (Nat.ne_of_lt b4.lt); replace lw := Below.only (lw.alloc lw.size (.cells zC.cells.toArray 26)) o2 lw.size)
    | ((with_reducible refine wpList_load_blk (o := ⟨some 46, .load 26 (.tmp 9), _, _, _, none⟩) rfl _ _ rfl w2.heap.size 26 y.cells _ ?_ ?_ Try.underlying26 rfl (cpu_sz _) ?_); rfl; exact b9)
    | (go_at_call 23; (with_reducible refine (KR.out _).mono ?_); rintro e w3 ⟨rfl, l3⟩; replace b4 := b4.keep l3; replace b9 := b9.keep l3; replace lw := Later.trans_ lw l3)
    | ((with_reducible refine wpList_load_g (o := ⟨some 54, .load 26 (.tmp 9), _, _, _, _⟩) _ _ rfl w2.heap.size 26 y.cells _ ?_ ?_ ?_ Try.underlying26 ?_ (cpu_sz _) ?_); rfl; rfl; exact b9; rfl)
    | (go_at_call 10; (with_reducible refine (KY.out _).mono ?_); rintro e w4 ⟨rfl, l4⟩; replace b4 := b4.keep l4; replace b9 := b9.keep l4; replace lw := Later.trans_ lw l4; have e1 := b9.cell (j := 19) (v := .int .u32 y.c2) rfl; have f1 := b9.frz 19; have e2 := b4.cell (j := 19) (v := .int .u32 x.c2) rfl)
    | (go_at_call 14; replace b9 : Blk _ w2.heap.size 26 x.cells := (by have h := (b9.set 19 (.int .u32 x.c2)); rw [hy.out] at h; exact h); replace b4 := (b4.set_other ⟨w2.heap.size, 19, none⟩ (.int .u32 x.c2) nab4); replace lw := (lw.setCell (p := ⟨w2.heap.size, 19, none⟩) ma (.int .u32 x.c2)); clear e1 f1 e2; (with_reducible refine (KS.out _).mono ?_); rintro e w5 ⟨rfl, l5⟩; replace b4 := b4.keep l5; replace b9 := b9.keep l5; replace lw := Later.trans_ lw l5)
    | ((with_reducible refine wpList_load_g (o := ⟨some 86, .load 26 (.tmp 9), _, _, _, _⟩) _ _ rfl w2.heap.size 26 x.cells _ ?_ ?_ ?_ Try.underlying26 ?_ (cpu_sz _) ?_); rfl; rfl; exact b9; rfl)
    | ((with_reducible refine wpList_load_g (o := ⟨some 87, .load 26 (.tmp 3), _, _, _, _⟩) _ _ rfl w.heap.size 26 x.cells _ ?_ ?_ ?_ Try.underlying26 ?_ (cpu_sz _) ?_); rfl; rfl; exact b4; rfl))
  go_ret
  exact ⟨rfl, lw⟩
set_option maxRecDepth 100000 in
set_option maxHeartbeats 2000000 in
theorem writes_3 (x : Cpu) (n v : Int) (w : World) (hz : Tm.isE v) (hv : okC x.r0 x.c5 x.c7 x.c8 x.wt x.hl x.cn = true) (hn : n.tmod 9 = 3) :
    Calls Try.prog 9 #[.agg x.cells.toArray, .int .u8 n, .int .u32 v] w fun e w' => e = .returned (.bool true) ∧ Later w w' := by
  have KS := Lib.hid fun w' => sanity_any w'
  have b4 := Blk.new w 26 x.cells.toArray x.cells rfl
  have lw := later1 w (.cells x.cells.toArray 26)
  have KV := Lib.hid fun w' => rvalid_is hv w'
  obtain ⟨y, hy0⟩ : ∃ y : Cpu, y = { x with c3 := v } := ⟨_, rfl⟩
  have KW := Lib.hid fun w' => write_is (x := x) (y := y) (n := 3) (v := v) (by omega) hz (by rw [hy0]; rfl) w'
  have KR := Lib.hid fun w' => read_is (x := y) (n := 3) (v := v) (by omega) (by rw [hy0]; rfl) w'
  obtain ⟨g0, g1, g2, g3, g4, g5, g6⟩ := okC_parts hv
  have KY := Lib.hid fun w' => valid_is (x := y) (b := true) (by rw [hy0]; exact okC_mk g0 (by exact g1) g2 g3 g4 g5 g6) w'
  have hy := Lib.hid hy0
  have heq := cpu_same x
  have hand := and7 hz
  clear hv hz hy0 g0 g1 g2 g3 g4 g5 g6
  go_enter Try.func9, Try.ntmps9
  go_wp2_with (first
    | ((with_reducible refine wpList_load_blk (o := ⟨some 13, .load 26 (.tmp 3), _, _, _, none⟩) rfl _ _ rfl w.heap.size 26 x.cells _ ?_ ?_ Try.underlying26 rfl (cpu_sz _) ?_); rfl; exact b4)
    | (go_at_call 11; (with_reducible refine (KV.out _).mono ?_); rintro e w1 ⟨rfl, l1⟩; replace b4 := b4.keep l1; replace lw := Later.trans_ lw l1)
    | ((with_reducible refine wpList_load_blk (o := ⟨some 22, .load 26 (.tmp 3), _, _, _, none⟩) rfl _ _ rfl w.heap.size 26 x.cells _ ?_ ?_ Try.underlying26 rfl (cpu_sz _) ?_); rfl; exact b4)
    | (go_at_call 24; (with_reducible refine (KW.out _).mono ?_); rintro e w2 ⟨rfl, l2⟩; replace b4 := b4.keep l2; replace lw := Later.trans_ lw l2)
    | ((with_reducible refine wpList_store_abs (o := ⟨none, .store 26 (.tmp 9) (.tmp 26), _, _, _, none⟩) rfl _ _ _ rfl w2.heap.size 26 zC.cells y.cells ?_ ?_ ?_ ?_ ?_ ?_ ?_); rfl; rfl; exact (Blk.new _ _ _ _ rfl); exact cpu_sz _; rfl; exact cpu_one _; have nab4 := Nat.ne_of_lt b4.lt; have ma := lw.size; intro v2 b9 o2; replace b4 := (b4.alloc (.cells zC.cells.toArray 26)).only o2 (Nat.ne_of_lt b4.lt); replace lw := Below.only (lw.alloc lw.size (.cells zC.cells.toArray 26)) o2 lw.size)
    | ((with_reducible refine wpList_load_blk (o := ⟨some 46, .load 26 (.tmp 9), _, _, _, none⟩) rfl _ _ rfl w2.heap.size 26 y.cells _ ?_ ?_ Try.underlying26 rfl (cpu_sz _) ?_); rfl; exact b9)
    | (go_at_call 23; (with_reducible refine (KR.out _).mono ?_); rintro e w3 ⟨rfl, l3⟩; replace b4 := b4.keep l3; replace b9 := b9.keep l3; replace lw := Later.trans_ lw l3)
    | ((with_reducible refine wpList_load_g (o := ⟨some 54, .load 26 (.tmp 9), _, _, _, _⟩) _ _ rfl w2.heap.size 26 y.cells _ ?_ ?_ ?_ Try.underlying26 ?_ (cpu_sz _) ?_); rfl; rfl; exact b9; rfl)
    | (go_at_call 10; (with_reducible refine (KY.out _).mono ?_); rintro e w4 ⟨rfl, l4⟩; replace b4 := b4.keep l4; replace b9 := b9.keep l4; replace lw := Later.trans_ lw l4; have e1 := b9.cell (j := 20) (v := .int .u32 y.c3) rfl; have f1 := b9.frz 20; have e2 := b4.cell (j := 20) (v := .int .u32 x.c3) rfl)
    | (go_at_call 14; replace b9 : Blk _ w2.heap.size 26 x.cells := (by have h := (b9.set 20 (.int .u32 x.c3)); rw [hy.out] at h; exact h); replace b4 := (b4.set_other ⟨w2.heap.size, 20, none⟩ (.int .u32 x.c3) nab4); replace lw := (lw.setCell (p := ⟨w2.heap.size, 20, none⟩) ma (.int .u32 x.c3)); clear e1 f1 e2; (with_reducible refine (KS.out _).mono ?_); rintro e w5 ⟨rfl, l5⟩; replace b4 := b4.keep l5; replace b9 := b9.keep l5; replace lw := Later.trans_ lw l5)
    | ((with_reducible refine wpList_load_g (o := ⟨some 86, .load 26 (.tmp 9), _, _, _, _⟩) _ _ rfl w2.heap.size 26 x.cells _ ?_ ?_ ?_ Try.underlying26 ?_ (cpu_sz _) ?_); rfl; rfl; exact b9; rfl)
    | ((with_reducible refine wpList_load_g (o := ⟨some 87, .load 26 (.tmp 3), _, _, _, _⟩) _ _ rfl w.heap.size 26 x.cells _ ?_ ?_ ?_ Try.underlying26 ?_ (cpu_sz _) ?_); rfl; rfl; exact b4; rfl))
  go_ret
  exact ⟨rfl, lw⟩
set_option maxRecDepth 100000 in
set_option maxHeartbeats 2000000 in
theorem writes_4 (x : Cpu) (n v : Int) (w : World) (hz : Tm.isE v) (hv : okC x.r0 x.c5 x.c7 x.c8 x.wt x.hl x.cn = true) (hn : n.tmod 9 = 4) :
    Calls Try.prog 9 #[.agg x.cells.toArray, .int .u8 n, .int .u32 v] w fun e w' => e = .returned (.bool true) ∧ Later w w' := by
  have KS := Lib.hid fun w' => sanity_any w'
  have b4 := Blk.new w 26 x.cells.toArray x.cells rfl
  have lw := later1 w (.cells x.cells.toArray 26)
  have KV := Lib.hid fun w' => rvalid_is hv w'
  obtain ⟨y, hy0⟩ : ∃ y : Cpu, y = { x with c4 := v } := ⟨_, rfl⟩
  have KW := Lib.hid fun w' => write_is (x := x) (y := y) (n := 4) (v := v) (by omega) hz (by rw [hy0]; rfl) w'
  have KR := Lib.hid fun w' => read_is (x := y) (n := 4) (v := v) (by omega) (by rw [hy0]; rfl) w'
  obtain ⟨g0, g1, g2, g3, g4, g5, g6⟩ := okC_parts hv
  have KY := Lib.hid fun w' => valid_is (x := y) (b := true) (by rw [hy0]; exact okC_mk g0 (by exact g1) g2 g3 g4 g5 g6) w'
  have hy := Lib.hid hy0
  have heq := cpu_same x
  have hand := and7 hz
  clear hv hz hy0 g0 g1 g2 g3 g4 g5 g6
  go_enter Try.func9, Try.ntmps9
  go_wp2_with (first
    | ((with_reducible refine wpList_load_blk (o := ⟨some 13, .load 26 (.tmp 3), _, _, _, none⟩) rfl _ _ rfl w.heap.size 26 x.cells _ ?_ ?_ Try.underlying26 rfl (cpu_sz _) ?_); rfl; exact b4)
    | (go_at_call 11; (with_reducible refine (KV.out _).mono ?_); rintro e w1 ⟨rfl, l1⟩; replace b4 := b4.keep l1; replace lw := Later.trans_ lw l1)
    | ((with_reducible refine wpList_load_blk (o := ⟨some 22, .load 26 (.tmp 3), _, _, _, none⟩) rfl _ _ rfl w.heap.size 26 x.cells _ ?_ ?_ Try.underlying26 rfl (cpu_sz _) ?_); rfl; exact b4)
    | (go_at_call 24; (with_reducible refine (KW.out _).mono ?_); rintro e w2 ⟨rfl, l2⟩; replace b4 := b4.keep l2; replace lw := Later.trans_ lw l2)
    | ((with_reducible refine wpList_store_abs (o := ⟨none, .store 26 (.tmp 9) (.tmp 26), _, _, _, none⟩) rfl _ _ _ rfl w2.heap.size 26 zC.cells y.cells ?_ ?_ ?_ ?_ ?_ ?_ ?_); rfl; rfl; exact (Blk.new _ _ _ _ rfl); exact cpu_sz _; rfl; exact cpu_one _; have nab4 := Nat.ne_of_lt b4.lt; have ma := lw.size; intro v2 b9 o2; replace b4 := (b4.alloc (.cells zC.cells.toArray 26)).only o2 (Nat.ne_of_lt b4.lt); replace lw := Below.only (lw.alloc lw.size (.cells zC.cells.toArray 26)) o2 lw.size)
    | ((with_reducible refine wpList_load_blk (o := ⟨some 46, .load 26 (.tmp 9), _, _, _, none⟩) rfl _ _ rfl w2.heap.size 26 y.cells _ ?_ ?_ Try.underlying26 rfl (cpu_sz _) ?_); rfl; exact b9)
    | (go_at_call 23; (with_reducible refine (KR.out _).mono ?_); rintro e w3 ⟨rfl, l3⟩; replace b4 := b4.keep l3; replace b9 := b9.keep l3; replace lw := Later.trans_ lw l3)
    | ((with_reducible refine wpList_load_g (o := ⟨some 54, .load 26 (.tmp 9), _, _, _, _⟩) _ _ rfl w2.heap.size 26 y.cells _ ?_ ?_ ?_ Try.underlying26 ?_ (cpu_sz _) ?_); rfl; rfl; exact b9; rfl)
    | (go_at_call 10; (with_reducible refine (KY.out _).mono ?_); rintro e w4 ⟨rfl, l4⟩; replace b4 := b4.keep l4; replace b9 := b9.keep l4; replace lw := Later.trans_ lw l4; have e1 := b9.cell (j := 21) (v := .int .u32 y.c4) rfl; have f1 := b9.frz 21; have e2 := b4.cell (j := 21) (v := .int .u32 x.c4) rfl)
    | (go_at_call 14; replace b9 : Blk _ w2.heap.size 26 x.cells := (by have h := (b9.set 21 (.int .u32 x.c4)); rw [hy.out] at h; exact h); replace b4 := (b4.set_other ⟨w2.heap.size, 21, none⟩ (.int .u32 x.c4) nab4); replace lw := (lw.setCell (p := ⟨w2.heap.size, 21, none⟩) ma (.int .u32 x.c4)); clear e1 f1 e2; (with_reducible refine (KS.out _).mono ?_); rintro e w5 ⟨rfl, l5⟩; replace b4 := b4.keep l5; replace b9 := b9.keep l5; replace lw := Later.trans_ lw l5)
    | ((with_reducible refine wpList_load_g (o := ⟨some 86, .load 26 (.tmp 9), _, _, _, _⟩) _ _ rfl w2.heap.size 26 x.cells _ ?_ ?_ ?_ Try.underlying26 ?_ (cpu_sz _) ?_); rfl; rfl; exact b9; rfl)
    | ((with_reducible refine wpList_load_g (o := ⟨some 87, .load 26 (.tmp 3), _, _, _, _⟩) _ _ rfl w.heap.size 26 x.cells _ ?_ ?_ ?_ Try.underlying26 ?_ (cpu_sz _) ?_); rfl; rfl; exact b4; rfl))
  go_ret
  exact ⟨rfl, lw⟩
set_option maxRecDepth 100000 in
set_option maxHeartbeats 2000000 in
theorem writes_5 (x : Cpu) (n v : Int) (w : World) (hz : Tm.isE v) (hv : okC x.r0 x.c5 x.c7 x.c8 x.wt x.hl x.cn = true) (hn : n.tmod 9 = 5) :
    Calls Try.prog 9 #[.agg x.cells.toArray, .int .u8 n, .int .u32 v] w fun e w' => e = .returned (.bool true) ∧ Later w w' := by
  have KS := Lib.hid fun w' => sanity_any w'
  have b4 := Blk.new w 26 x.cells.toArray x.cells rfl
  have lw := later1 w (.cells x.cells.toArray 26)
  have KV := Lib.hid fun w' => rvalid_is hv w'
  obtain ⟨y, hy0⟩ : ∃ y : Cpu, y = { x with c5 := (v % 8) } := ⟨_, rfl⟩
  have KW := Lib.hid fun w' => write_is (x := x) (y := y) (n := 5) (v := v) (by omega) hz (by rw [hy0]; rfl) w'
  have KR := Lib.hid fun w' => read_is (x := y) (n := 5) (v := (v % 8)) (by omega) (by rw [hy0]; rfl) w'
  obtain ⟨g0, g1, g2, g3, g4, g5, g6⟩ := okC_parts hv
  have KY := Lib.hid fun w' => valid_is (x := y) (b := true) (by rw [hy0]; exact okC_mk g0 (by show v % 8 ≤ 7; omega) g2 g3 g4 g5 g6) w'
  have hy := Lib.hid hy0
  have heq := cpu_same x
  have hand := and7 hz
  clear hv hz hy0 g0 g1 g2 g3 g4 g5 g6
  go_enter Try.func9, Try.ntmps9
  go_wp2_with (first
    | ((with_reducible refine wpList_load_blk (o := ⟨some 13, .load 26 (.tmp 3), _, _, _, none⟩) rfl _ _ rfl w.heap.size 26 x.cells _ ?_ ?_ Try.underlying26 rfl (cpu_sz _) ?_); rfl; exact b4)
    | (go_at_call 11; (with_reducible refine (KV.out _).mono ?_); rintro e w1 ⟨rfl, l1⟩; replace b4 := b4.keep l1; replace lw := Later.trans_ lw l1)
    | ((with_reducible refine wpList_load_blk (o := ⟨some 22, .load 26 (.tmp 3), _, _, _, none⟩) rfl _ _ rfl w.heap.size 26 x.cells _ ?_ ?_ Try.underlying26 rfl (cpu_sz _) ?_); rfl; exact b4)
    | (go_at_call 24; (with_reducible refine (KW.out _).mono ?_); rintro e w2 ⟨rfl, l2⟩; replace b4 := b4.keep l2; replace lw := Later.trans_ lw l2)
    | ((with_reducible refine wpList_store_abs (o := ⟨none, .store 26 (.tmp 9) (.tmp 26), _, _, _, none⟩) rfl _ _ _ rfl w2.heap.size 26 zC.cells y.cells ?_ ?_ ?_ ?_ ?_ ?_ ?_); rfl; rfl; exact (Blk.new _ _ _ _ rfl); exact cpu_sz _; rfl; exact cpu_one _; have nab4 := Nat.ne_of_lt b4.lt; have ma := lw.size; intro v2 b9 o2; replace b4 := (b4.alloc (.cells zC.cells.toArray 26)).only o2 (Nat.ne_of_lt b4.lt); replace lw := Below.only (lw.alloc lw.size (.cells zC.cells.toArray 26)) o2 lw.size)
    | ((with_reducible refine wpList_load_blk (o := ⟨some 46, .load 26 (.tmp 9), _, _, _, none⟩) rfl _ _ rfl w2.heap.size 26 y.cells _ ?_ ?_ Try.underlying26 rfl (cpu_sz _) ?_); rfl; exact b9)
    | (go_at_call 23; (with_reducible refine (KR.out _).mono ?_); rintro e w3 ⟨rfl, l3⟩; replace b4 := b4.keep l3; replace b9 := b9.keep l3; replace lw := Later.trans_ lw l3)
    | ((with_reducible refine wpList_load_g (o := ⟨some 54, .load 26 (.tmp 9), _, _, _, _⟩) _ _ rfl w2.heap.size 26 y.cells _ ?_ ?_ ?_ Try.underlying26 ?_ (cpu_sz _) ?_); rfl; rfl; exact b9; rfl)
    | (go_at_call 10; (with_reducible refine (KY.out _).mono ?_); rintro e w4 ⟨rfl, l4⟩; replace b4 := b4.keep l4; replace b9 := b9.keep l4; replace lw := Later.trans_ lw l4; have e1 := b9.cell (j := 22) (v := .int .u32 y.c5) rfl; have f1 := b9.frz 22; have e2 := b4.cell (j := 22) (v := .int .u32 x.c5) rfl)
    | (go_at_call 14; replace b9 : Blk _ w2.heap.size 26 x.cells := (by have h := (b9.set 22 (.int .u32 x.c5)); rw [hy.out] at h; exact h); replace b4 := (b4.set_other ⟨w2.heap.size, 22, none⟩ (.int .u32 x.c5) nab4); replace lw := (lw.setCell (p := ⟨w2.heap.size, 22, none⟩) ma (.int .u32 x.c5)); clear e1 f1 e2; (with_reducible refine (KS.out _).mono ?_); rintro e w5 ⟨rfl, l5⟩; replace b4 := b4.keep l5; replace b9 := b9.keep l5; replace lw := Later.trans_ lw l5)
    | ((with_reducible refine wpList_load_g (o := ⟨some 86, .load 26 (.tmp 9), _, _, _, _⟩) _ _ rfl w2.heap.size 26 x.cells _ ?_ ?_ ?_ Try.underlying26 ?_ (cpu_sz _) ?_); rfl; rfl; exact b9; rfl)
    | ((with_reducible refine wpList_load_g (o := ⟨some 87, .load 26 (.tmp 3), _, _, _, _⟩) _ _ rfl w.heap.size 26 x.cells _ ?_ ?_ ?_ Try.underlying26 ?_ (cpu_sz _) ?_); rfl; rfl; exact b4; rfl))
  go_ret
  exact ⟨rfl, lw⟩
set_option maxRecDepth 100000 in
set_option maxHeartbeats 2000000 in
theorem writes_6 (x : Cpu) (n v : Int) (w : World) (hz : Tm.isE v) (hv : okC x.r0 x.c5 x.c7 x.c8 x.wt x.hl x.cn = true) (hn : n.tmod 9 = 6) :
    Calls Try.prog 9 #[.agg x.cells.toArray, .int .u8 n, .int .u32 v] w fun e w' => e = .returned (.bool true) ∧ Later w w' := by
  have KS := Lib.hid fun w' => sanity_any w'
  have b4 := Blk.new w 26 x.cells.toArray x.cells rfl
  have lw := later1 w (.cells x.cells.toArray 26)
  have KV := Lib.hid fun w' => rvalid_is hv w'
  obtain ⟨y, hy0⟩ : ∃ y : Cpu, y = { x with c6 := v } := ⟨_, rfl⟩
  have KW := Lib.hid fun w' => write_is (x := x) (y := y) (n := 6) (v := v) (by omega) hz (by rw [hy0]; rfl) w'
  have KR := Lib.hid fun w' => read_is (x := y) (n := 6) (v := v) (by omega) (by rw [hy0]; rfl) w'
  obtain ⟨g0, g1, g2, g3, g4, g5, g6⟩ := okC_parts hv
  have KY := Lib.hid fun w' => valid_is (x := y) (b := true) (by rw [hy0]; exact okC_mk g0 (by exact g1) g2 g3 g4 g5 g6) w'
  have hy := Lib.hid hy0
  have heq := cpu_same x
  have hand := and7 hz
  clear hv hz hy0 g0 g1 g2 g3 g4 g5 g6
  go_enter Try.func9, Try.ntmps9
  go_wp2_with (first
    | ((with_reducible refine wpList_load_blk (o := ⟨some 13, .load 26 (.tmp 3), _, _, _, none⟩) rfl _ _ rfl w.heap.size 26 x.cells _ ?_ ?_ Try.underlying26 rfl (cpu_sz _) ?_); rfl; exact b4)
    | (go_at_call 11; (with_reducible refine (KV.out _).mono ?_); rintro e w1 ⟨rfl, l1⟩; replace b4 := b4.keep l1; replace lw := Later.trans_ lw l1)
    | ((with_reducible refine wpList_load_blk (o := ⟨some 22, .load 26 (.tmp 3), _, _, _, none⟩) rfl _ _ rfl w.heap.size 26 x.cells _ ?_ ?_ Try.underlying26 rfl (cpu_sz _) ?_); rfl; exact b4)
    | (go_at_call 24; (with_reducible refine (KW.out _).mono ?_); rintro e w2 ⟨rfl, l2⟩; replace b4 := b4.keep l2; replace lw := Later.trans_ lw l2)
    | ((with_reducible refine wpList_store_abs (o := ⟨none, .store 26 (.tmp 9) (.tmp 26), _, _, _, none⟩) rfl _ _ _ rfl w2.heap.size 26 zC.cells y.cells ?_ ?_ ?_ ?_ ?_ ?_ ?_); rfl; rfl; exact (Blk.new _ _ _ _ rfl); exact cpu_sz _; rfl; exact cpu_one _; have nab4 := Nat.ne_of_lt b4.lt; have ma := lw.size; intro v2 b9 o2; replace b4 := (b4.alloc (.cells zC.cells.toArray 26)).only o2 (Nat.ne_of_lt b4.lt); replace lw := Below.only (lw.alloc lw.size (.cells zC.cells.toArray 26)) o2 lw.size)
    | ((with_reducible refine wpList_load_blk (o := ⟨some 46, .load 26 (.tmp 9), _, _, _, none⟩) rfl _ _ rfl w2.heap.size 26 y.cells _ ?_ ?_ Try.underlying26 rfl (cpu_sz _) ?_); rfl; exact b9)
    | (go_at_call 23; (with_reducible refine (KR.out _).mono ?_); rintro e w3 ⟨rfl, l3⟩; replace b4 := b4.keep l3; replace b9 := b9.keep l3; replace lw := Later.trans_ lw l3)
    | ((with_reducible refine wpList_load_g (o := ⟨some 54, .load 26 (.tmp 9), _, _, _, _⟩) _ _ rfl w2.heap.size 26 y.cells _ ?_ ?_ ?_ Try.underlying26 ?_ (cpu_sz _) ?_); rfl; rfl; exact b9; rfl)
    | (go_at_call 10; (with_reducible refine (KY.out _).mono ?_); rintro e w4 ⟨rfl, l4⟩; replace b4 := b4.keep l4; replace b9 := b9.keep l4; replace lw := Later.trans_ lw l4; have e1 := b9.cell (j := 23) (v := .int .u32 y.c6) rfl; have f1 := b9.frz 23; have e2 := b4.cell (j := 23) (v := .int .u32 x.c6) rfl)
    | (go_at_call 14; replace b9 : Blk _ w2.heap.size 26 x.cells := (by have h := (b9.set 23 (.int .u32 x.c6)); rw [hy.out] at h; exact h); replace b4 := (b4.set_other ⟨w2.heap.size, 23, none⟩ (.int .u32 x.c6) nab4); replace lw := (lw.setCell (p := ⟨w2.heap.size, 23, none⟩) ma (.int .u32 x.c6)); clear e1 f1 e2; (with_reducible refine (KS.out _).mono ?_); rintro e w5 ⟨rfl, l5⟩; replace b4 := b4.keep l5; replace b9 := b9.keep l5; replace lw := Later.trans_ lw l5)
    | ((with_reducible refine wpList_load_g (o := ⟨some 86, .load 26 (.tmp 9), _, _, _, _⟩) _ _ rfl w2.heap.size 26 x.cells _ ?_ ?_ ?_ Try.underlying26 ?_ (cpu_sz _) ?_); rfl; rfl; exact b9; rfl)
    | ((with_reducible refine wpList_load_g (o := ⟨some 87, .load 26 (.tmp 3), _, _, _, _⟩) _ _ rfl w.heap.size 26 x.cells _ ?_ ?_ ?_ Try.underlying26 ?_ (cpu_sz _) ?_); rfl; rfl; exact b4; rfl))
  go_ret
  exact ⟨rfl, lw⟩
set_option maxRecDepth 100000 in
set_option maxHeartbeats 2000000 in
theorem writes_7 (x : Cpu) (n v : Int) (w : World) (hz : Tm.isE v) (hv : okC x.r0 x.c5 x.c7 x.c8 x.wt x.hl x.cn = true) (hn : n.tmod 9 = 7) :
    Calls Try.prog 9 #[.agg x.cells.toArray, .int .u8 n, .int .u32 v] w fun e w' => e = .returned (.bool true) ∧ Later w w' := by
  have KS := Lib.hid fun w' => sanity_any w'
  have b4 := Blk.new w 26 x.cells.toArray x.cells rfl
  have lw := later1 w (.cells x.cells.toArray 26)
  have KV := Lib.hid fun w' => rvalid_is hv w'
  have KW := Lib.hid fun w' => write_no (x := x) (n := 7) (v := v) (by omega) hz w'
  have heq := cpu_same x
  clear hv hz
  go_enter Try.func9, Try.ntmps9
  go_wp2_with (first
    | ((with_reducible refine wpList_load_blk (o := ⟨some 13, .load 26 (.tmp 3), _, _, _, none⟩) rfl _ _ rfl w.heap.size 26 x.cells _ ?_ ?_ Try.underlying26 rfl (cpu_sz _) ?_); rfl; exact b4)
    | (go_at_call 11; (with_reducible refine (KV.out _).mono ?_); rintro e w1 ⟨rfl, l1⟩; replace b4 := b4.keep l1; replace lw := Later.trans_ lw l1)
    | ((with_reducible refine wpList_load_blk (o := ⟨some 22, .load 26 (.tmp 3), _, _, _, none⟩) rfl _ _ rfl w.heap.size 26 x.cells _ ?_ ?_ Try.underlying26 rfl (cpu_sz _) ?_); rfl; exact b4)
    | (go_at_call 24; (with_reducible refine (KW.out _).mono ?_); rintro e w2 ⟨rfl, l2⟩; replace b4 := b4.keep l2; replace lw := Later.trans_ lw l2)
    | ((with_reducible refine wpList_store_abs (o := ⟨none, .store 26 (.tmp 9) (.tmp 26), _, _, _, none⟩) rfl _ _ _ rfl w2.heap.size 26 zC.cells x.cells ?_ ?_ ?_ ?_ ?_ ?_ ?_); rfl; rfl; exact (Blk.new _ _ _ _ rfl); exact cpu_sz _; rfl; exact cpu_one _; intro v2 b9 o2; replace b4 := (b4.alloc (.cells zC.cells.toArray 26)).only o2 (Nat.ne_of_lt b4.lt); replace lw := Below.only (lw.alloc lw.size (.cells zC.cells.toArray 26)) o2 lw.size)
    | (go_at_call 14; (with_reducible refine (KS.out _).mono ?_); rintro e w3 ⟨rfl, l3⟩; replace b4 := b4.keep l3; replace b9 := b9.keep l3; replace lw := Later.trans_ lw l3)
    | ((with_reducible refine wpList_load_g (o := ⟨some 41, .load 26 (.tmp 9), _, _, _, _⟩) _ _ rfl w2.heap.size 26 x.cells _ ?_ ?_ ?_ Try.underlying26 ?_ (cpu_sz _) ?_); rfl; rfl; exact b9; rfl)
    | ((with_reducible refine wpList_load_g (o := ⟨some 42, .load 26 (.tmp 3), _, _, _, _⟩) _ _ rfl w.heap.size 26 x.cells _ ?_ ?_ ?_ Try.underlying26 ?_ (cpu_sz _) ?_); rfl; rfl; exact b4; rfl))
  go_ret
  exact ⟨rfl, lw⟩
set_option maxRecDepth 100000 in
set_option maxHeartbeats 2000000 in
theorem writes_8 (x : Cpu) (n v : Int) (w : World) (hz : Tm.isE v) (hv : okC x.r0 x.c5 x.c7 x.c8 x.wt x.hl x.cn = true) (hn : n.tmod 9 = 8) :
    Calls Try.prog 9 #[.agg x.cells.toArray, .int .u8 n, .int .u32 v] w fun e w' => e = .returned (.bool true) ∧ Later w w' := by
  have KS := Lib.hid fun w' => sanity_any w'
  have b4 := Blk.new w 26 x.cells.toArray x.cells rfl
  have lw := later1 w (.cells x.cells.toArray 26)
  have KV := Lib.hid fun w' => rvalid_is hv w'
  have KW := Lib.hid fun w' => write_no (x := x) (n := 8) (v := v) (by omega) hz w'
  have heq := cpu_same x
  clear hv hz
  go_enter Try.func9, Try.ntmps9
  go_wp2_with (first
    | ((with_reducible refine wpList_load_blk (o := ⟨some 13, .load 26 (.tmp 3), _, _, _, none⟩) rfl _ _ rfl w.heap.size 26 x.cells _ ?_ ?_ Try.underlying26 rfl (cpu_sz _) ?_); rfl; exact b4)
    | (go_at_call 11; (with_reducible refine (KV.out _).mono ?_); rintro e w1 ⟨rfl, l1⟩; replace b4 := b4.keep l1; replace lw := Later.trans_ lw l1)
    | ((with_reducible refine wpList_load_blk (o := ⟨some 22, .load 26 (.tmp 3), _, _, _, none⟩) rfl _ _ rfl w.heap.size 26 x.cells _ ?_ ?_ Try.underlying26 rfl (cpu_sz _) ?_); rfl; exact b4)
    | (go_at_call 24; (with_reducible refine (KW.out _).mono ?_); rintro e w2 ⟨rfl, l2⟩; replace b4 := b4.keep l2; replace lw := Later.trans_ lw l2)
    | ((with_reducible refine wpList_store_abs (o := ⟨none, .store 26 (.tmp 9) (.tmp 26), _, _, _, none⟩) rfl _ _ _ rfl w2.heap.size 26 zC.cells x.cells ?_ ?_ ?_ ?_ ?_ ?_ ?_); rfl; rfl; exact (Blk.new _ _ _ _ rfl); exact cpu_sz _; rfl; exact cpu_one _; intro v2 b9 o2; replace b4 := (b4.alloc (.cells zC.cells.toArray 26)).only o2 (Nat.ne_of_lt b4.lt); replace lw := Below.only (lw.alloc lw.size (.cells zC.cells.toArray 26)) o2 lw.size)
    | (go_at_call 14; (with_reducible refine (KS.out _).mono ?_); rintro e w3 ⟨rfl, l3⟩; replace b4 := b4.keep l3; replace b9 := b9.keep l3; replace lw := Later.trans_ lw l3)
    | ((with_reducible refine wpList_load_g (o := ⟨some 41, .load 26 (.tmp 9), _, _, _, _⟩) _ _ rfl w2.heap.size 26 x.cells _ ?_ ?_ ?_ Try.underlying26 ?_ (cpu_sz _) ?_); rfl; rfl; exact b9; rfl)
    | ((with_reducible refine wpList_load_g (o := ⟨some 42, .load 26 (.tmp 3), _, _, _, _⟩) _ _ rfl w.heap.size 26 x.cells _ ?_ ?_ ?_ Try.underlying26 ?_ (cpu_sz _) ?_); rfl; rfl; exact b4; rfl))
  go_ret
  exact ⟨rfl, lw⟩
theorem writes_all (x : Cpu) (n v : Int) (w : World) (hn : 0 ≤ n ∧ n ≤ 255) (hz : Tm.isE v) :
    Calls Try.prog 9 #[.agg x.cells.toArray, .int .u8 n, .int .u32 v] w fun e w' => e = .returned (.bool true) ∧ Later w w' := by
  cases hv : okC x.r0 x.c5 x.c7 x.c8 x.wt x.hl x.cn with
  | false => exact writes_bad x n v w hv
  | true =>
    have hm : n.tmod 9 = n % 9 := Int.tmod_eq_emod_of_nonneg hn.1
    rcases (show n % 9 = 0 ∨ n % 9 = 1 ∨ n % 9 = 2 ∨ n % 9 = 3 ∨ n % 9 = 4 ∨ n % 9 = 5 ∨ n % 9 = 6 ∨ n % 9 = 7 ∨ n % 9 = 8 by omega) with h | h | h | h | h | h | h | h | h
    · exact writes_0 x n v w hz hv (by omega)
    · exact writes_1 x n v w hz hv (by omega)
    · exact writes_2 x n v w hz hv (by omega)
    · exact writes_3 x n v w hz hv (by omega)
    · exact writes_4 x n v w hz hv (by omega)
    · exact writes_5 x n v w hz hv (by omega)
    · exact writes_6 x n v w hz hv (by omega)
    · exact writes_7 x n v w hz hv (by omega)
    · exact writes_8 x n v w hz hv (by omega)

set_option maxRecDepth 100000 in
theorem trapWritesStay_lifted (os : Os) (started : os.Started) (H : Type) (enc : TypeId × Value → H) :
    ReturnsInHanded {} Try.checked os 9 .any (Rows.trapWritesStaySpec.pre6 enc Try.prog Try.f9 Rows.trapWritesStayRow.domain false) (Rows.trapWritesStaySpec.post enc Try.prog Try.f9 false true false false) := by
  refine returnsInHanded_of_change (C := Try.checked) ownK started (by kernel_rfl) Try.func9
    (ChangeSpec.witness6 (enc := enc) (C := Try.checked) false ⟨#[], #[.agg #[.int .u32 0, .int .u32 0, .int .u32 0, .int .u32 0, .int .u32 0, .int .u32 0, .int .u32 0, .int .u32 0, .int .u32 0, .int .u32 0, .int .u32 0, .int .u32 0, .int .u32 0, .int .u32 0, .int .u32 0, .int .u32 0, .int .u32 0, .int .u32 0, .int .u32 0, .int .u32 0, .int .u32 0, .int .u32 0, .int .u32 0, .int .u32 0, .int .u32 0, .int .u32 0, .bool false, .bool false, .bool false, .int .i64 0], .int .u8 0, .int .u32 0], []⟩ 8 (by kernel_rfl) (by kernel_rfl) (by kernel_rfl) (by kernel_rfl)) ?_
  intro W base args ds gs before hval0 hW hcnd _
  have hval : ∀ (j : Nat) t v, Try.f9.params[j]? = some t → args[j]? = some v → Value.okWide Try.prog W .any base t v := hval0
  have hW' := hW
  obtain ⟨p, q, hA0, hV, rfl, hfz, hnd⟩ := hW
  have hA : DataW.TrodAll enc Try.prog W 0 (fun _ => true) true Try.f9.params.toList args.toList ds p := hA0
  rw [Try.params9] at hA hval
  obtain ⟨v0, vs0, d0, ds0, p0, q0, hargs, rfl, rfl, h0, r0⟩ := trodAll_cons hA
  obtain ⟨v1, vs1, d1, ds1, p1, q1, rfl, rfl, rfl, h1, r1⟩ := trodAll_cons r0
  obtain ⟨v2, vs2, d2, ds2, p2, q2, rfl, rfl, rfl, h2, r2⟩ := trodAll_cons r1
  obtain ⟨rfl, rfl, rfl⟩ := trodAll_nil r2
  obtain rfl : args = #[v0, v1, v2] := by cases args; simp_all
  obtain ⟨rfl, rfl⟩ := trodVars_none hV
  obtain ⟨a0, rfl, z0⟩ := cpu_open (hval 0 26 v0 rfl rfl) h0
  obtain ⟨a1, rfl, _, _, w1⟩ := open_int Try.underlying5 (hval 1 5 v1 rfl rfl) h1
  have z1 : 0 ≤ a1 ∧ a1 ≤ 255 := by
    have e1 : IntKind.u8.min = 0 := rfl
    have e2 : IntKind.u8.max = 255 := rfl
    simp only [Lit.wf, Bool.and_eq_true, decide_eq_true_eq] at w1
    omega
  obtain ⟨a2, rfl, y2⟩ := u32_arg Try.underlying22 (hval 2 22 v2 rfl rfl) h2
  have z2 : Tm.isE a2 := ⟨y2.1, by have := y2.2; omega⟩
  clear hA0 hval0
  simp only [List.append_nil] at hW'
  refine (writes_all a0 a1 a2 W z1 z2).mono fun e W' ⟨he, hw⟩ => ?_
  subst he
  exact ⟨_, rfl, law_post laidK rfl (by kernel_rfl) (by kernel_rfl) Try.underlying4 (by kernel_rfl) hW' rfl hw⟩
set_option maxRecDepth 100000 in
/-- The statement. -/
theorem trapWritesStay_said : Rows.TrapWritesStaySaid :=
  OpenClaim.holds_of_wide 9 Try.f9 rfl rfl rfl rfl rfl rfl rfl ⟨rfl, rfl, rfl, rfl, rfl⟩ rfl rfl rfl rfl rfl (by kernel_rfl) Try.func9 (by kernel_rfl)
    (of_decide_eq_true (by kernel_rfl)) (by unfold Func.isWrapper; first | (rw [if_pos (by decide +kernel)]; kernel_rfl) | (rw [if_neg (by decide +kernel)]; exact ⟨rfl, rfl⟩))
    (fun os started H enc _ => trapWritesStay_lifted os started H enc)
#print axioms trapWritesStay_said
end Go.Proofs.Ytkknobonpejgbaa
