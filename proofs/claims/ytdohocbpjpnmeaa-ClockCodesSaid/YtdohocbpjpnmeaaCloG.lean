/-
  A CLOCK: Port, the program's and the reference's.
-/
import Derived.Test.YtdohocbpjpnmeaaCloF
import Derived.Deep.RegionHeld
namespace Go.Proofs.Ytdohocbpjpnmeaa
open Go.RowKit Go.ChangeShapes Go.WideShapes Go.ChangeAt

def ioC (inn : Bool) (p v : Int) : List Value := [.bool inn, .int .i64 p, .int .u32 v]
theorem io_sz (inn : Bool) (p v : Int) : (Try.prog.info? 46).map (·.size) = some (ioC inn p v).length := by
  show _ = some 3
  kernel_rfl
set_option maxRecDepth 100000 in
set_option maxHeartbeats 4000000 in
theorem port_any (x : Clk) (c n : Int) (inn : Bool) (p v : Int) (w : World) (hv : 0 ≤ v ∧ v ≤ 4294967295) : Calls Try.prog 23 #[.agg x.cells.toArray, .int .i64 c, .int .i64 n, .agg #[.bool inn, .int .i64 p, .int .u32 v]] w fun e w' => e = .returned (.tuple #[.agg (x.portC c n inn p v).cells.toArray, .int .u32 (x.portV c inn p), .int .i64 (x.portE c n inn p)]) ∧ Later w w' := by
  have KR := Lib.hid fun w' => read_any x c w'
  have KS := Lib.hid fun w' => set_any x c n v w' hv
  have b4 := ((Blk.new w 25 x.cells.toArray x.cells rfl).alloc (.cells (ioC inn p v).toArray 46)).alloc (.cells zK.cells.toArray 25)
  have b7 := (Blk.new' (w.alloc (.cells x.cells.toArray 25)) (w.heap.size + 1) 46 (ioC inn p v).toArray (ioC inn p v) (by simp) rfl).alloc (.cells zK.cells.toArray 25)
  have b8 := Blk.new' ((w.alloc (.cells x.cells.toArray 25)).alloc (.cells (ioC inn p v).toArray 46)) (w.heap.size + 1 + 1) 25 zK.cells.toArray zK.cells (by simp) rfl
  have lw := ((later1 w (.cells x.cells.toArray 25)).alloc (by simp) (.cells (ioC inn p v).toArray 46)).alloc (by simp; omega) (.cells zK.cells.toArray 25)
  obtain ⟨u0, hu⟩ : ∃ u0, ((w.alloc (.cells x.cells.toArray 25)).alloc (.cells (ioC inn p v).toArray 46)).alloc (.cells zK.cells.toArray 25) = u0 := ⟨_, rfl⟩
  rw [hu] at b4 b7 b8 lw
  have nw := lw.size
  have hu2 : ((w.alloc (.cells x.cells.toArray 25)).alloc (.cells #[.bool inn, .int .i64 p, .int .u32 v] 46)).alloc (.cells #[.int .i64 0, .bool false, .bool false, .bool false, .bool false, .int .i64 0, .int .i64 0, .int .i64 0, .int .i64 0, .int .i64 0, .int .i64 0, .int .i64 0, .int .i64 0] 25) = u0 := hu
  clear hv
  cases inn with
  | true =>
    by_cases hp : p = 16
    · subst hp
      rw [show x.portC c n true 16 v = x.readC c from by unfold Clk.portC; rfl, show x.portV c true 16 = x.readV c from by unfold Clk.portV; rfl, show x.portE c n true 16 = x.readE c from by unfold Clk.portE; rfl]
      obtain ⟨y, hy⟩ : ∃ y, y = x.readC c := ⟨_, rfl⟩
      obtain ⟨yv, hyv⟩ : ∃ y, y = x.readV c := ⟨_, rfl⟩
      obtain ⟨ye, hye⟩ : ∃ y, y = x.readE c := ⟨_, rfl⟩
      rw [← hy, ← hyv, ← hye] at KR ⊢
      clear hy hyv hye
      go_enter Try.func23, Try.ntmps23
      go_upto_region 1 with fail
      clear hu hu2
      have e0 := b7.cell (j := 0) rfl
      have e1 := b7.cell (j := 1) rfl
      have e2 := b7.cell (j := 2) rfl
      go_wp2_with (first
        | ((with_reducible refine wpList_load_blk (o := ⟨some 21, .load 25 (.tmp 4), _, _, _, none⟩) rfl _ _ rfl w.heap.size 25 x.cells _ ?_ ?_ Try.underlying25 rfl (clk_sz _) ?_); rfl; exact b4)
        | (go_at_call 14; clear e0 e1 e2; (with_reducible refine (KR.out _).mono ?_); rintro e w1 ⟨rfl, l1⟩; replace b4 := b4.keep l1; replace b7 := b7.keep l1; replace b8 := b8.keep l1; replace lw := Later.trans_ lw l1)
        | ((with_reducible refine wpList_store_abs (o := ⟨none, .store 25 (.tmp 8) (.tmp 24), _, _, _, none⟩) rfl _ _ _ rfl (w.heap.size + 1 + 1) 25 zK.cells y.cells ?_ ?_ ?_ ?_ ?_ ?_ ?_); rfl; rfl; exact b8; exact clk_sz _; rfl; exact clk_one _; intro w9 b9 o9))
      exact bodyPost_ret (clk_ret3 Try.results23 _ _ (w.heap.size + 1 + 1) y (.int .u32 yv) (.int .i64 ye) rfl rfl rfl b9) rfl ⟨rfl, Below.only lw o9 (by omega)⟩
    · have dp : (p == 16) = false := beq_false_of_ne hp
      rw [show x.portC c n true p v = x from by unfold Clk.portC; simp [hp], show x.portV c true p = 0 from by unfold Clk.portV; simp [hp], show x.portE c n true p = 5 from by unfold Clk.portE; simp [hp]]
      clear hp
      go_enter Try.func23, Try.ntmps23
      go_upto_region 1 with fail
      clear hu hu2
      have e0 := b7.cell (j := 0) rfl
      have e1 := b7.cell (j := 1) rfl
      have e2 := b7.cell (j := 2) rfl
      go_wp2_with (first
        | ((with_reducible refine wpList_load_blk (o := ⟨some 47, .load 25 (.tmp 4), _, _, _, none⟩) rfl _ _ rfl w.heap.size 25 x.cells _ ?_ ?_ Try.underlying25 rfl (clk_sz _) ?_); rfl; exact b4)
        | ((with_reducible refine wpList_store_abs (o := ⟨none, .store 25 (.tmp 8) (.tmp 47), _, _, _, none⟩) rfl _ _ _ rfl (w.heap.size + 1 + 1) 25 zK.cells x.cells ?_ ?_ ?_ ?_ ?_ ?_ ?_); rfl; rfl; exact b8; exact clk_sz _; rfl; exact clk_one _; intro w9 b9 o9))
      exact bodyPost_ret (clk_ret3 Try.results23 _ _ (w.heap.size + 1 + 1) x (.int .u32 0) (.int .i64 5) rfl rfl rfl b9) rfl ⟨rfl, Below.only lw o9 (by omega)⟩
  | false =>
    by_cases hp : p = 17
    · subst hp
      rw [show x.portC c n false 17 v = x.setC c n v from by unfold Clk.portC; rfl, show x.portV c false 17 = 0 from by unfold Clk.portV; rfl, show x.portE c n false 17 = setE c n from by unfold Clk.portE; rfl]
      obtain ⟨y, hy⟩ : ∃ y, y = x.setC c n v := ⟨_, rfl⟩
      obtain ⟨ye, hye⟩ : ∃ y, y = setE c n := ⟨_, rfl⟩
      rw [← hy, ← hye] at KS ⊢
      clear hy hye
      go_enter Try.func23, Try.ntmps23
      go_upto_region 1 with fail
      clear hu hu2
      have e0 := b7.cell (j := 0) rfl
      have e1 := b7.cell (j := 1) rfl
      have e2 := b7.cell (j := 2) rfl
      go_wp2_with (first
        | ((with_reducible refine wpList_load_blk (o := ⟨some 37, .load 25 (.tmp 4), _, _, _, none⟩) rfl _ _ rfl w.heap.size 25 x.cells _ ?_ ?_ Try.underlying25 rfl (clk_sz _) ?_); rfl; exact b4)
        | (go_at_call 17; clear e0 e1 e2; (with_reducible refine (KS.out _).mono ?_); rintro e w1 ⟨rfl, l1⟩; replace b4 := b4.keep l1; replace b7 := b7.keep l1; replace b8 := b8.keep l1; replace lw := Later.trans_ lw l1)
        | ((with_reducible refine wpList_store_abs (o := ⟨none, .store 25 (.tmp 11) (.tmp 43), _, _, _, none⟩) rfl _ _ _ rfl w1.heap.size 25 zK.cells y.cells ?_ ?_ ?_ ?_ ?_ ?_ ?_); rfl; rfl; exact (Blk.new _ _ _ _ rfl); exact clk_sz _; rfl; exact clk_one _; have n8 := Nat.ne_of_lt b8.lt; intro w2 b11 o11; replace b8 := (b8.alloc (.cells zK.cells.toArray 25)).only o11 n8; replace lw := Below.only (lw.alloc lw.size (.cells zK.cells.toArray 25)) o11 lw.size; clear o11)
        | ((with_reducible refine wpList_load_blk (o := ⟨some 45, .load 25 (.tmp 11), _, _, _, none⟩) rfl _ _ rfl w1.heap.size 25 y.cells _ ?_ ?_ Try.underlying25 rfl (clk_sz _) ?_); rfl; exact b11)
        | ((with_reducible refine wpList_store_abs (o := ⟨none, .store 25 (.tmp 8) (.tmp 45), _, _, _, none⟩) rfl _ _ _ rfl (w.heap.size + 1 + 1) 25 zK.cells y.cells ?_ ?_ ?_ ?_ ?_ ?_ ?_); rfl; rfl; exact b8; exact clk_sz _; rfl; exact clk_one _; intro w9 b9 o9))
      exact bodyPost_ret (clk_ret3 Try.results23 _ _ (w.heap.size + 1 + 1) y (.int .u32 0) (.int .i64 ye) rfl rfl rfl b9) rfl ⟨rfl, Below.only lw o9 (by omega)⟩
    · have dp : (p == 17) = false := beq_false_of_ne hp
      rw [show x.portC c n false p v = x from by unfold Clk.portC; simp [hp], show x.portV c false p = 0 from by unfold Clk.portV; rfl, show x.portE c n false p = 5 from by unfold Clk.portE; simp [hp]]
      clear hp
      go_enter Try.func23, Try.ntmps23
      go_upto_region 1 with fail
      clear hu hu2
      have e0 := b7.cell (j := 0) rfl
      have e1 := b7.cell (j := 1) rfl
      have e2 := b7.cell (j := 2) rfl
      go_wp2_with (first
        | ((with_reducible refine wpList_load_blk (o := ⟨some 47, .load 25 (.tmp 4), _, _, _, none⟩) rfl _ _ rfl w.heap.size 25 x.cells _ ?_ ?_ Try.underlying25 rfl (clk_sz _) ?_); rfl; exact b4)
        | ((with_reducible refine wpList_store_abs (o := ⟨none, .store 25 (.tmp 8) (.tmp 47), _, _, _, none⟩) rfl _ _ _ rfl (w.heap.size + 1 + 1) 25 zK.cells x.cells ?_ ?_ ?_ ?_ ?_ ?_ ?_); rfl; rfl; exact b8; exact clk_sz _; rfl; exact clk_one _; intro w9 b9 o9))
      exact bodyPost_ret (clk_ret3 Try.results23 _ _ (w.heap.size + 1 + 1) x (.int .u32 0) (.int .i64 5) rfl rfl rfl b9) rfl ⟨rfl, Below.only lw o9 (by omega)⟩
set_option maxRecDepth 100000 in
set_option maxHeartbeats 4000000 in
theorem rport_any (x : Clk) (c n : Int) (inn : Bool) (p v : Int) (w : World) (hv : 0 ≤ v ∧ v ≤ 4294967295) : Calls Try.prog 24 #[.agg x.cells.toArray, .int .i64 c, .int .i64 n, .agg #[.bool inn, .int .i64 p, .int .u32 v]] w fun e w' => e = .returned (.agg (gotC (x.portC c n inn p v) (x.portV c inn p) false (x.portE c n inn p)).toArray) ∧ Later w w' := by
  have KR := Lib.hid fun w' => rread_any x c w'
  have KS := Lib.hid fun w' => rset_any x c n v w' hv
  have b4 := ((Blk.new w 25 x.cells.toArray x.cells rfl).alloc (.cells (ioC inn p v).toArray 46)).alloc (.cells (gotC zK 0 false 0).toArray 35)
  have b7 := (Blk.new' (w.alloc (.cells x.cells.toArray 25)) (w.heap.size + 1) 46 (ioC inn p v).toArray (ioC inn p v) (by simp) rfl).alloc (.cells (gotC zK 0 false 0).toArray 35)
  have b8 := Blk.new' ((w.alloc (.cells x.cells.toArray 25)).alloc (.cells (ioC inn p v).toArray 46)) (w.heap.size + 1 + 1) 35 (gotC zK 0 false 0).toArray (gotC zK 0 false 0) (by simp) rfl
  have lw := ((later1 w (.cells x.cells.toArray 25)).alloc (by simp) (.cells (ioC inn p v).toArray 46)).alloc (by simp; omega) (.cells (gotC zK 0 false 0).toArray 35)
  obtain ⟨u0, hu⟩ : ∃ u0, ((w.alloc (.cells x.cells.toArray 25)).alloc (.cells (ioC inn p v).toArray 46)).alloc (.cells (gotC zK 0 false 0).toArray 35) = u0 := ⟨_, rfl⟩
  rw [hu] at b4 b7 b8 lw
  have nw := lw.size
  have hu2 : ((w.alloc (.cells x.cells.toArray 25)).alloc (.cells #[.bool inn, .int .i64 p, .int .u32 v] 46)).alloc (.cells #[.int .i64 0, .bool false, .bool false, .bool false, .bool false, .int .i64 0, .int .i64 0, .int .i64 0, .int .i64 0, .int .i64 0, .int .i64 0, .int .i64 0, .int .i64 0, .int .u32 0, .bool false, .int .i64 0] 35) = u0 := hu
  clear hv
  cases inn with
  | true =>
    by_cases hp : p = 16
    · subst hp
      rw [show x.portC c n true 16 v = x.readC c from by unfold Clk.portC; rfl, show x.portV c true 16 = x.readV c from by unfold Clk.portV; rfl, show x.portE c n true 16 = x.readE c from by unfold Clk.portE; rfl]
      go_enter Try.func24, Try.ntmps24
      go_upto_region 1 with fail
      clear hu hu2
      have e0 := b7.cell (j := 0) rfl
      have e1 := b7.cell (j := 1) rfl
      have e2 := b7.cell (j := 2) rfl
      go_wp2_with (first
        | ((with_reducible refine wpList_load_blk (o := ⟨some 16, .load 25 (.tmp 4), _, _, _, none⟩) rfl _ _ rfl w.heap.size 25 x.cells _ ?_ ?_ Try.underlying25 rfl (clk_sz _) ?_); rfl; exact b4)
        | (go_at_call 16; clear e0 e1 e2; (with_reducible refine (KR.out _).mono ?_); rintro e w1 ⟨rfl, l1⟩; replace b4 := b4.keep l1; replace b7 := b7.keep l1; replace b8 := b8.keep l1; replace lw := Later.trans_ lw l1)
        | ((with_reducible refine wpList_store_abs (o := ⟨none, .store 35 (.tmp 8) (.tmp 18), _, _, _, none⟩) rfl _ _ _ rfl (w.heap.size + 1 + 1) 35 (gotC zK 0 false 0) (gotC (x.readC c) (x.readV c) false (x.readE c)) ?_ ?_ ?_ ?_ ?_ ?_ ?_); rfl; rfl; exact b8; exact got_sz _ _ _ _; rfl; exact got_one _ _ _ _; intro w9 b9 o9))
      exact bodyPost_ret (got_ret Try.results24 _ _ (w.heap.size + 1 + 1) (x.readC c) (x.readV c) false (x.readE c) rfl b9) rfl ⟨rfl, Below.only lw o9 (by omega)⟩
    · have dp : (p == 16) = false := beq_false_of_ne hp
      rw [show x.portC c n true p v = x from by unfold Clk.portC; simp [hp], show x.portV c true p = 0 from by unfold Clk.portV; simp [hp], show x.portE c n true p = 5 from by unfold Clk.portE; simp [hp]]
      clear hp
      by_cases hp2 : p = 17
      · subst hp2
        go_enter Try.func24, Try.ntmps24
        go_upto_region 1 with fail
        clear hu hu2
        have e0 := b7.cell (j := 0) rfl
        have e1 := b7.cell (j := 1) rfl
        have e2 := b7.cell (j := 2) rfl
        go_wp2_with (first
          | ((with_reducible refine wpList_load_blk (o := ⟨some 33, .load 25 (.tmp 4), _, _, _, none⟩) rfl _ _ rfl w.heap.size 25 x.cells _ ?_ ?_ Try.underlying25 rfl (clk_sz _) ?_); rfl; exact b4)
          | ((with_reducible refine wpList_bld (o := ⟨some 34, .build 35 #[(0, .tmp 33), (3, .const (.int .i64 5))], _, _, _, none⟩) rfl _ #[(0, .tmp 33), (3, .const (.int .i64 5))] #[(0, .agg x.cells.toArray), (3, .int .i64 5)] (gotC x 0 false 5).toArray rfl ?_ (run_ge x 5 _) ?_); rfl)
          | ((with_reducible refine wpList_store_abs (o := ⟨none, .store 35 (.tmp 8) (.tmp 34), _, _, _, none⟩) rfl _ _ _ rfl (w.heap.size + 1 + 1) 35 (gotC zK 0 false 0) (gotC x 0 false 5) ?_ ?_ ?_ ?_ ?_ ?_ ?_); rfl; rfl; exact b8; exact got_sz _ _ _ _; rfl; exact got_one _ _ _ _; intro w9 b9 o9))
        exact bodyPost_ret (got_ret Try.results24 _ _ (w.heap.size + 1 + 1) x 0 false 5 rfl b9) rfl ⟨rfl, Below.only lw o9 (by omega)⟩
      · have dp2 : (p == 17) = false := beq_false_of_ne hp2
        clear hp2
        go_enter Try.func24, Try.ntmps24
        go_upto_region 1 with fail
        clear hu hu2
        have e0 := b7.cell (j := 0) rfl
        have e1 := b7.cell (j := 1) rfl
        have e2 := b7.cell (j := 2) rfl
        go_wp2_with (first
          | ((with_reducible refine wpList_load_blk (o := ⟨some 33, .load 25 (.tmp 4), _, _, _, none⟩) rfl _ _ rfl w.heap.size 25 x.cells _ ?_ ?_ Try.underlying25 rfl (clk_sz _) ?_); rfl; exact b4)
          | ((with_reducible refine wpList_bld (o := ⟨some 34, .build 35 #[(0, .tmp 33), (3, .const (.int .i64 5))], _, _, _, none⟩) rfl _ #[(0, .tmp 33), (3, .const (.int .i64 5))] #[(0, .agg x.cells.toArray), (3, .int .i64 5)] (gotC x 0 false 5).toArray rfl ?_ (run_ge x 5 _) ?_); rfl)
          | ((with_reducible refine wpList_store_abs (o := ⟨none, .store 35 (.tmp 8) (.tmp 34), _, _, _, none⟩) rfl _ _ _ rfl (w.heap.size + 1 + 1) 35 (gotC zK 0 false 0) (gotC x 0 false 5) ?_ ?_ ?_ ?_ ?_ ?_ ?_); rfl; rfl; exact b8; exact got_sz _ _ _ _; rfl; exact got_one _ _ _ _; intro w9 b9 o9))
        exact bodyPost_ret (got_ret Try.results24 _ _ (w.heap.size + 1 + 1) x 0 false 5 rfl b9) rfl ⟨rfl, Below.only lw o9 (by omega)⟩
  | false =>
    by_cases hp : p = 17
    · subst hp
      rw [show x.portC c n false 17 v = x.setC c n v from by unfold Clk.portC; rfl, show x.portV c false 17 = 0 from by unfold Clk.portV; rfl, show x.portE c n false 17 = setE c n from by unfold Clk.portE; rfl]
      go_enter Try.func24, Try.ntmps24
      go_upto_region 1 with fail
      clear hu hu2
      have e0 := b7.cell (j := 0) rfl
      have e1 := b7.cell (j := 1) rfl
      have e2 := b7.cell (j := 2) rfl
      go_wp2_with (first
        | ((with_reducible refine wpList_load_blk (o := ⟨some 27, .load 25 (.tmp 4), _, _, _, none⟩) rfl _ _ rfl w.heap.size 25 x.cells _ ?_ ?_ Try.underlying25 rfl (clk_sz _) ?_); rfl; exact b4)
        | (go_at_call 19; clear e0 e1 e2; (with_reducible refine (KS.out _).mono ?_); rintro e w1 ⟨rfl, l1⟩; replace b4 := b4.keep l1; replace b7 := b7.keep l1; replace b8 := b8.keep l1; replace lw := Later.trans_ lw l1)
        | ((with_reducible refine wpList_store_abs (o := ⟨none, .store 35 (.tmp 8) (.tmp 32), _, _, _, none⟩) rfl _ _ _ rfl (w.heap.size + 1 + 1) 35 (gotC zK 0 false 0) (gotC (x.setC c n v) 0 false (setE c n)) ?_ ?_ ?_ ?_ ?_ ?_ ?_); rfl; rfl; exact b8; exact got_sz _ _ _ _; rfl; exact got_one _ _ _ _; intro w9 b9 o9))
      exact bodyPost_ret (got_ret Try.results24 _ _ (w.heap.size + 1 + 1) (x.setC c n v) 0 false (setE c n) rfl b9) rfl ⟨rfl, Below.only lw o9 (by omega)⟩
    · have dp : (p == 17) = false := beq_false_of_ne hp
      rw [show x.portC c n false p v = x from by unfold Clk.portC; simp [hp], show x.portV c false p = 0 from by unfold Clk.portV; rfl, show x.portE c n false p = 5 from by unfold Clk.portE; simp [hp]]
      clear hp
      by_cases hp2 : p = 16
      · subst hp2
        go_enter Try.func24, Try.ntmps24
        go_upto_region 1 with fail
        clear hu hu2
        have e0 := b7.cell (j := 0) rfl
        have e1 := b7.cell (j := 1) rfl
        have e2 := b7.cell (j := 2) rfl
        go_wp2_with (first
          | ((with_reducible refine wpList_load_blk (o := ⟨some 33, .load 25 (.tmp 4), _, _, _, none⟩) rfl _ _ rfl w.heap.size 25 x.cells _ ?_ ?_ Try.underlying25 rfl (clk_sz _) ?_); rfl; exact b4)
          | ((with_reducible refine wpList_bld (o := ⟨some 34, .build 35 #[(0, .tmp 33), (3, .const (.int .i64 5))], _, _, _, none⟩) rfl _ #[(0, .tmp 33), (3, .const (.int .i64 5))] #[(0, .agg x.cells.toArray), (3, .int .i64 5)] (gotC x 0 false 5).toArray rfl ?_ (run_ge x 5 _) ?_); rfl)
          | ((with_reducible refine wpList_store_abs (o := ⟨none, .store 35 (.tmp 8) (.tmp 34), _, _, _, none⟩) rfl _ _ _ rfl (w.heap.size + 1 + 1) 35 (gotC zK 0 false 0) (gotC x 0 false 5) ?_ ?_ ?_ ?_ ?_ ?_ ?_); rfl; rfl; exact b8; exact got_sz _ _ _ _; rfl; exact got_one _ _ _ _; intro w9 b9 o9))
        exact bodyPost_ret (got_ret Try.results24 _ _ (w.heap.size + 1 + 1) x 0 false 5 rfl b9) rfl ⟨rfl, Below.only lw o9 (by omega)⟩
      · have dp2 : (p == 16) = false := beq_false_of_ne hp2
        clear hp2
        go_enter Try.func24, Try.ntmps24
        go_upto_region 1 with fail
        clear hu hu2
        have e0 := b7.cell (j := 0) rfl
        have e1 := b7.cell (j := 1) rfl
        have e2 := b7.cell (j := 2) rfl
        go_wp2_with (first
          | ((with_reducible refine wpList_load_blk (o := ⟨some 33, .load 25 (.tmp 4), _, _, _, none⟩) rfl _ _ rfl w.heap.size 25 x.cells _ ?_ ?_ Try.underlying25 rfl (clk_sz _) ?_); rfl; exact b4)
          | ((with_reducible refine wpList_bld (o := ⟨some 34, .build 35 #[(0, .tmp 33), (3, .const (.int .i64 5))], _, _, _, none⟩) rfl _ #[(0, .tmp 33), (3, .const (.int .i64 5))] #[(0, .agg x.cells.toArray), (3, .int .i64 5)] (gotC x 0 false 5).toArray rfl ?_ (run_ge x 5 _) ?_); rfl)
          | ((with_reducible refine wpList_store_abs (o := ⟨none, .store 35 (.tmp 8) (.tmp 34), _, _, _, none⟩) rfl _ _ _ rfl (w.heap.size + 1 + 1) 35 (gotC zK 0 false 0) (gotC x 0 false 5) ?_ ?_ ?_ ?_ ?_ ?_ ?_); rfl; rfl; exact b8; exact got_sz _ _ _ _; rfl; exact got_one _ _ _ _; intro w9 b9 o9))
        exact bodyPost_ret (got_ret Try.results24 _ _ (w.heap.size + 1 + 1) x 0 false 5 rfl b9) rfl ⟨rfl, Below.only lw o9 (by omega)⟩
end Go.Proofs.Ytdohocbpjpnmeaa
