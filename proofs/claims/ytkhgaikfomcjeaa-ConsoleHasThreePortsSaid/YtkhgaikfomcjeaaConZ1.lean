/-
  THE STATEMENT ConsoleHasThreePorts: a valid console has exactly three ports, each in one direction; asking for another one, or how many bytes wait, changes nothing; for every console, port and value.
-/
import Derived.Test.YtkhgaikfomcjeaaConI
import Derived.Deep.RegionHeld
namespace Go.Proofs.Ytkhgaikfomcjeaa
open Go.RowKit Go.ChangeShapes Go.WideShapes Go.ChangeAt

theorem one_first (v : Int) : firstV (one (v % 256)) = v % 256 := by
  unfold firstV
  rw [dif_pos (show 0 < (one (v % 256)).size from by show 0 < 1; decide)]
  show (((UInt8.ofNat (v % 256).toNat)).toNat : Int) = v % 256
  rw [UInt8.toNat_ofNat']
  omega
set_option maxRecDepth 100000 in
theorem run_one (v : Int) (w : World) : (Instr.index 9 (.string (one (v % 256))) (.int .i64 0)).run Try.prog w = .ok (.int .u8 (v % 256)) w := by
  have h := run_first (one (v % 256)) (by show 0 < 1; decide) w
  rw [show firstV (one (v % 256)) = v % 256 from one_first v] at h
  exact h
set_option maxRecDepth 100000 in
set_option maxHeartbeats 8000000 in
theorem three_p33 (x : Cn) (v : Int) (w : World) (hok : x.ok = true) : Calls Try.prog 6 #[.agg x.cells.toArray, .int .i64 33, .int .u32 v] w fun e w' => e = .returned (.bool true) ∧ Later w w' := by
  have KS := Lib.hid fun w' => sanity_any w'
  have KR := Lib.hid fun w' => rvalid_any x w'
  rw [hok] at KR
  have hz := (ok_open hok).1
  have b3 := (Blk.new' w w.heap.size 23 (x.cells).toArray (x.cells) (by simp) rfl)
  have lw := (later1 w (.cells (x.cells).toArray 23))
  obtain ⟨u0, hu⟩ : ∃ u, (w.alloc (.cells (x.cells).toArray 23)) = u := ⟨_, rfl⟩
  rw [hu] at b3 lw
  have KA := Lib.hid fun w' => (show Calls Try.prog 13 #[.agg x.cells.toArray, .agg #[.bool true, .int .i64 33, .int .u32 v]] w' fun e w'' => e = .returned (.tuple #[.agg (⟨restS x.s, x.n⟩ : Cn).cells.toArray, .int .u32 (firstV x.s), .string ⟨#[]⟩, .bool true]) ∧ Later w' w'' from port_take x v w' hz)
  have KB := Lib.hid fun w' => (show Calls Try.prog 13 #[.agg x.cells.toArray, .agg #[.bool false, .int .i64 33, .int .u32 v]] w' fun e w'' => e = .returned (.tuple #[.agg x.cells.toArray, .int .u32 0, .string ⟨#[]⟩, .bool false]) ∧ Later w' w'' from port_n33 x v w' hz)
  have hq := cn_same x
  obtain ⟨y, hy⟩ : ∃ y, y = (⟨restS x.s, x.n⟩ : Cn) := ⟨_, rfl⟩
  obtain ⟨yv, hyv⟩ : ∃ y, y = firstV x.s := ⟨_, rfl⟩
  rw [← hy, ← hyv] at KA
  clear hy hyv
  clear hz hok
  go_enter Try.func6, Try.ntmps6
  go_upto_region 1 with fail
  have hu2 : (w.alloc (.cells (x.cells).toArray 23)) = u0 := hu
  try rw [hu2]
  clear hu hu2
  go_upto_region 4 with (first
    | ((with_reducible refine wpList_load_blk (o := ⟨some 15, .load 23 (.tmp 3), _, _, _, none⟩) rfl _ _ rfl w.heap.size 23 x.cells _ ?_ ?_ Try.underlying23 rfl (cn_sz _) ?_); rfl; exact b3)
    | (go_at_call 9; (with_reducible refine (KR.out _).mono ?_); rintro e w1 ⟨rfl, l1⟩; replace b3 := b3.keep l1; replace lw := Later.trans_ lw l1)
    | ((with_reducible refine wpList_load_blk (o := ⟨some 20, .load 23 (.tmp 3), _, _, _, none⟩) rfl _ _ rfl w.heap.size 23 x.cells _ ?_ ?_ Try.underlying23 rfl (cn_sz _) ?_); rfl; exact b3)
    | (go_at_call 13; (with_reducible refine (KA.out _).mono ?_); rintro e w2 ⟨rfl, l1⟩; replace b3 := b3.keep l1; replace lw := Later.trans_ lw l1)
    | ((with_reducible refine wpList_store_abs (o := ⟨none, .store 23 (.tmp 7) (.tmp 25), _, _, _, none⟩) rfl _ _ _ rfl w2.heap.size 23 zC.cells y.cells ?_ ?_ ?_ ?_ ?_ ?_ ?_); rfl; rfl; exact (Blk.new _ _ _ _ rfl); exact cn_sz _; rfl; exact cn_one _; intro u2 b7 ob7; replace b3 := (b3.alloc (.cells zC.cells.toArray 23)).only ob7 (Nat.ne_of_lt b3.lt); replace lw := Below.only (lw.alloc lw.size (.cells zC.cells.toArray 23)) ob7 lw.size; clear ob7))
  go_upto_region 5 with (first
    | ((with_reducible refine wpList_load_blk (o := ⟨some 30, .load 23 (.tmp 3), _, _, _, none⟩) rfl _ _ rfl w.heap.size 23 x.cells _ ?_ ?_ Try.underlying23 rfl (cn_sz _) ?_); rfl; exact b3)
    | (go_at_call 13; (with_reducible refine (KB.out _).mono ?_); rintro e w3 ⟨rfl, l1⟩; replace b3 := b3.keep l1; replace b7 := b7.keep l1; replace lw := Later.trans_ lw l1)
    | ((with_reducible refine wpList_store_abs (o := ⟨none, .store 23 (.tmp 11) (.tmp 35), _, _, _, none⟩) rfl _ _ _ rfl w3.heap.size 23 zC.cells x.cells ?_ ?_ ?_ ?_ ?_ ?_ ?_); rfl; rfl; exact (Blk.new _ _ _ _ rfl); exact cn_sz _; rfl; exact cn_one _; intro u3 b11 ob11; replace b3 := (b3.alloc (.cells zC.cells.toArray 23)).only ob11 (Nat.ne_of_lt b3.lt); replace b7 := (b7.alloc (.cells zC.cells.toArray 23)).only ob11 (Nat.ne_of_lt b7.lt); replace lw := Below.only (lw.alloc lw.size (.cells zC.cells.toArray 23)) ob11 lw.size; clear ob11))
  go_upto_region 9 with (first
    | ((with_reducible refine wpList_load_g (o := ⟨some 56, .load 23 (.tmp 7), _, _, _, _⟩) _ _ rfl w2.heap.size 23 y.cells _ ?_ ?_ ?_ Try.underlying23 ?_ (cn_sz _) ?_); rfl; rfl; exact b7; rfl)
    | ((with_reducible refine wpList_load_g (o := ⟨some 57, .load 23 (.tmp 3), _, _, _, _⟩) _ _ rfl w.heap.size 23 x.cells _ ?_ ?_ ?_ Try.underlying23 ?_ (cn_sz _) ?_); rfl; rfl; exact b3; rfl)
    | ((with_reducible refine wpList_load_g (o := ⟨some 72, .load 23 (.tmp 11), _, _, _, _⟩) _ _ rfl w3.heap.size 23 x.cells _ ?_ ?_ ?_ Try.underlying23 ?_ (cn_sz _) ?_); rfl; rfl; exact b11; rfl)
    | ((with_reducible refine wpList_load_g (o := ⟨some 73, .load 23 (.tmp 3), _, _, _, _⟩) _ _ rfl w.heap.size 23 x.cells _ ?_ ?_ ?_ Try.underlying23 ?_ (cn_sz _) ?_); rfl; rfl; exact b3; rfl))
  go_wp2_with (first
    | (go_at_call 7; (with_reducible refine (KS.out _).mono ?_); rintro e w4 ⟨rfl, l1⟩; replace b3 := b3.keep l1; replace b7 := b7.keep l1; replace b11 := b11.keep l1; replace lw := Later.trans_ lw l1; have f0 := b3.cell (cn_s x))
    | ((with_reducible refine wpList_load_g (o := ⟨some 90, .load 23 (.tmp 7), _, _, _, _⟩) _ _ rfl w2.heap.size 23 y.cells _ ?_ ?_ ?_ Try.underlying23 ?_ (cn_sz _) ?_); rfl; rfl; exact b7; rfl)
    | ((with_reducible refine wpList_load_g (o := ⟨some 91, .load 23 (.tmp 3), _, _, _, _⟩) _ _ rfl w.heap.size 23 x.cells _ ?_ ?_ ?_ Try.underlying23 ?_ (cn_sz _) ?_); rfl; rfl; exact b3; rfl))
  go_ret
  exact ⟨rfl, lw⟩
set_option maxRecDepth 100000 in
set_option maxHeartbeats 8000000 in
theorem three_p34 (x : Cn) (v : Int) (w : World) (hok : x.ok = true) : Calls Try.prog 6 #[.agg x.cells.toArray, .int .i64 34, .int .u32 v] w fun e w' => e = .returned (.bool true) ∧ Later w w' := by
  have KS := Lib.hid fun w' => sanity_any w'
  have KR := Lib.hid fun w' => rvalid_any x w'
  rw [hok] at KR
  have hz := (ok_open hok).1
  have b3 := (Blk.new' w w.heap.size 23 (x.cells).toArray (x.cells) (by simp) rfl)
  have lw := (later1 w (.cells (x.cells).toArray 23))
  obtain ⟨u0, hu⟩ : ∃ u, (w.alloc (.cells (x.cells).toArray 23)) = u := ⟨_, rfl⟩
  rw [hu] at b3 lw
  have KA := Lib.hid fun w' => (show Calls Try.prog 13 #[.agg x.cells.toArray, .agg #[.bool true, .int .i64 34, .int .u32 v]] w' fun e w'' => e = .returned (.tuple #[.agg x.cells.toArray, .int .u32 (x.s.size : Int), .string ⟨#[]⟩, .bool true]) ∧ Later w' w'' from port_count x v w' hz)
  have KB := Lib.hid fun w' => (show Calls Try.prog 13 #[.agg x.cells.toArray, .agg #[.bool false, .int .i64 34, .int .u32 v]] w' fun e w'' => e = .returned (.tuple #[.agg x.cells.toArray, .int .u32 0, .string ⟨#[]⟩, .bool false]) ∧ Later w' w'' from port_n34 x v w' hz)
  have hq := cn_same x
  have a1 : IntKind.u32.wrap (x.s.size : Int) = (x.s.size : Int) := by rw [IntKind.wrap_u32]; omega
  have a2 : (x.s.size : Int) % 4294967296 = (x.s.size : Int) := by omega
  clear hz hok
  go_enter Try.func6, Try.ntmps6
  go_upto_region 1 with fail
  have hu2 : (w.alloc (.cells (x.cells).toArray 23)) = u0 := hu
  try rw [hu2]
  clear hu hu2
  go_upto_region 4 with (first
    | ((with_reducible refine wpList_load_blk (o := ⟨some 15, .load 23 (.tmp 3), _, _, _, none⟩) rfl _ _ rfl w.heap.size 23 x.cells _ ?_ ?_ Try.underlying23 rfl (cn_sz _) ?_); rfl; exact b3)
    | (go_at_call 9; (with_reducible refine (KR.out _).mono ?_); rintro e w1 ⟨rfl, l1⟩; replace b3 := b3.keep l1; replace lw := Later.trans_ lw l1)
    | ((with_reducible refine wpList_load_blk (o := ⟨some 20, .load 23 (.tmp 3), _, _, _, none⟩) rfl _ _ rfl w.heap.size 23 x.cells _ ?_ ?_ Try.underlying23 rfl (cn_sz _) ?_); rfl; exact b3)
    | (go_at_call 13; (with_reducible refine (KA.out _).mono ?_); rintro e w2 ⟨rfl, l1⟩; replace b3 := b3.keep l1; replace lw := Later.trans_ lw l1)
    | ((with_reducible refine wpList_store_abs (o := ⟨none, .store 23 (.tmp 7) (.tmp 25), _, _, _, none⟩) rfl _ _ _ rfl w2.heap.size 23 zC.cells x.cells ?_ ?_ ?_ ?_ ?_ ?_ ?_); rfl; rfl; exact (Blk.new _ _ _ _ rfl); exact cn_sz _; rfl; exact cn_one _; intro u2 b7 ob7; replace b3 := (b3.alloc (.cells zC.cells.toArray 23)).only ob7 (Nat.ne_of_lt b3.lt); replace lw := Below.only (lw.alloc lw.size (.cells zC.cells.toArray 23)) ob7 lw.size; clear ob7))
  go_upto_region 5 with (first
    | ((with_reducible refine wpList_load_blk (o := ⟨some 30, .load 23 (.tmp 3), _, _, _, none⟩) rfl _ _ rfl w.heap.size 23 x.cells _ ?_ ?_ Try.underlying23 rfl (cn_sz _) ?_); rfl; exact b3)
    | (go_at_call 13; (with_reducible refine (KB.out _).mono ?_); rintro e w3 ⟨rfl, l1⟩; replace b3 := b3.keep l1; replace b7 := b7.keep l1; replace lw := Later.trans_ lw l1)
    | ((with_reducible refine wpList_store_abs (o := ⟨none, .store 23 (.tmp 11) (.tmp 35), _, _, _, none⟩) rfl _ _ _ rfl w3.heap.size 23 zC.cells x.cells ?_ ?_ ?_ ?_ ?_ ?_ ?_); rfl; rfl; exact (Blk.new _ _ _ _ rfl); exact cn_sz _; rfl; exact cn_one _; intro u3 b11 ob11; replace b3 := (b3.alloc (.cells zC.cells.toArray 23)).only ob11 (Nat.ne_of_lt b3.lt); replace b7 := (b7.alloc (.cells zC.cells.toArray 23)).only ob11 (Nat.ne_of_lt b7.lt); replace lw := Below.only (lw.alloc lw.size (.cells zC.cells.toArray 23)) ob11 lw.size; clear ob11))
  go_upto_region 9 with (first
    | ((with_reducible refine wpList_load_g (o := ⟨some 56, .load 23 (.tmp 7), _, _, _, _⟩) _ _ rfl w2.heap.size 23 x.cells _ ?_ ?_ ?_ Try.underlying23 ?_ (cn_sz _) ?_); rfl; rfl; exact b7; rfl)
    | ((with_reducible refine wpList_load_g (o := ⟨some 57, .load 23 (.tmp 3), _, _, _, _⟩) _ _ rfl w.heap.size 23 x.cells _ ?_ ?_ ?_ Try.underlying23 ?_ (cn_sz _) ?_); rfl; rfl; exact b3; rfl)
    | ((with_reducible refine wpList_load_g (o := ⟨some 72, .load 23 (.tmp 11), _, _, _, _⟩) _ _ rfl w3.heap.size 23 x.cells _ ?_ ?_ ?_ Try.underlying23 ?_ (cn_sz _) ?_); rfl; rfl; exact b11; rfl)
    | ((with_reducible refine wpList_load_g (o := ⟨some 73, .load 23 (.tmp 3), _, _, _, _⟩) _ _ rfl w.heap.size 23 x.cells _ ?_ ?_ ?_ Try.underlying23 ?_ (cn_sz _) ?_); rfl; rfl; exact b3; rfl))
  go_wp2_with (first
    | (go_at_call 7; (with_reducible refine (KS.out _).mono ?_); rintro e w4 ⟨rfl, l1⟩; replace b3 := b3.keep l1; replace b7 := b7.keep l1; replace b11 := b11.keep l1; replace lw := Later.trans_ lw l1; have f0 := b3.cell (cn_s x))
    | ((with_reducible refine wpList_load_g (o := ⟨some 90, .load 23 (.tmp 7), _, _, _, _⟩) _ _ rfl w2.heap.size 23 x.cells _ ?_ ?_ ?_ Try.underlying23 ?_ (cn_sz _) ?_); rfl; rfl; exact b7; rfl)
    | ((with_reducible refine wpList_load_g (o := ⟨some 91, .load 23 (.tmp 3), _, _, _, _⟩) _ _ rfl w.heap.size 23 x.cells _ ?_ ?_ ?_ Try.underlying23 ?_ (cn_sz _) ?_); rfl; rfl; exact b3; rfl))
  go_ret
  exact ⟨rfl, lw⟩
set_option maxRecDepth 100000 in
set_option maxHeartbeats 8000000 in
theorem three_p32 (x : Cn) (v : Int) (w : World) (hok : x.ok = true) : Calls Try.prog 6 #[.agg x.cells.toArray, .int .i64 32, .int .u32 v] w fun e w' => e = .returned (.bool true) ∧ Later w w' := by
  have KS := Lib.hid fun w' => sanity_any w'
  have KR := Lib.hid fun w' => rvalid_any x w'
  rw [hok] at KR
  have hz := (ok_open hok).1
  have b3 := (Blk.new' w w.heap.size 23 (x.cells).toArray (x.cells) (by simp) rfl)
  have lw := (later1 w (.cells (x.cells).toArray 23))
  obtain ⟨u0, hu⟩ : ∃ u, (w.alloc (.cells (x.cells).toArray 23)) = u := ⟨_, rfl⟩
  rw [hu] at b3 lw
  have KA := Lib.hid fun w' => (show Calls Try.prog 13 #[.agg x.cells.toArray, .agg #[.bool true, .int .i64 32, .int .u32 v]] w' fun e w'' => e = .returned (.tuple #[.agg x.cells.toArray, .int .u32 0, .string ⟨#[]⟩, .bool false]) ∧ Later w' w'' from port_n32 x v w' hz)
  have KB := Lib.hid fun w' => (show Calls Try.prog 13 #[.agg x.cells.toArray, .agg #[.bool false, .int .i64 32, .int .u32 v]] w' fun e w'' => e = .returned (.tuple #[.agg x.cells.toArray, .int .u32 0, .string (one (v % 256)), .bool true]) ∧ Later w' w'' from port_put x v w' hz)
  have hq := cn_same x
  have hz1 : (one (v % 256)).size = 1 := rfl
  have hI := run_one v
  obtain ⟨s1, hs1⟩ : ∃ s, s = one (v % 256) := ⟨_, rfl⟩
  rw [← hs1] at KB hz1 hI
  clear hs1
  clear hz hok
  go_enter Try.func6, Try.ntmps6
  go_upto_region 1 with fail
  have hu2 : (w.alloc (.cells (x.cells).toArray 23)) = u0 := hu
  try rw [hu2]
  clear hu hu2
  go_upto_region 4 with (first
    | ((with_reducible refine wpList_load_blk (o := ⟨some 15, .load 23 (.tmp 3), _, _, _, none⟩) rfl _ _ rfl w.heap.size 23 x.cells _ ?_ ?_ Try.underlying23 rfl (cn_sz _) ?_); rfl; exact b3)
    | (go_at_call 9; (with_reducible refine (KR.out _).mono ?_); rintro e w1 ⟨rfl, l1⟩; replace b3 := b3.keep l1; replace lw := Later.trans_ lw l1)
    | ((with_reducible refine wpList_load_blk (o := ⟨some 20, .load 23 (.tmp 3), _, _, _, none⟩) rfl _ _ rfl w.heap.size 23 x.cells _ ?_ ?_ Try.underlying23 rfl (cn_sz _) ?_); rfl; exact b3)
    | (go_at_call 13; (with_reducible refine (KA.out _).mono ?_); rintro e w2 ⟨rfl, l1⟩; replace b3 := b3.keep l1; replace lw := Later.trans_ lw l1)
    | ((with_reducible refine wpList_store_abs (o := ⟨none, .store 23 (.tmp 7) (.tmp 25), _, _, _, none⟩) rfl _ _ _ rfl w2.heap.size 23 zC.cells x.cells ?_ ?_ ?_ ?_ ?_ ?_ ?_); rfl; rfl; exact (Blk.new _ _ _ _ rfl); exact cn_sz _; rfl; exact cn_one _; intro u2 b7 ob7; replace b3 := (b3.alloc (.cells zC.cells.toArray 23)).only ob7 (Nat.ne_of_lt b3.lt); replace lw := Below.only (lw.alloc lw.size (.cells zC.cells.toArray 23)) ob7 lw.size; clear ob7))
  go_upto_region 5 with (first
    | ((with_reducible refine wpList_load_blk (o := ⟨some 30, .load 23 (.tmp 3), _, _, _, none⟩) rfl _ _ rfl w.heap.size 23 x.cells _ ?_ ?_ Try.underlying23 rfl (cn_sz _) ?_); rfl; exact b3)
    | (go_at_call 13; (with_reducible refine (KB.out _).mono ?_); rintro e w3 ⟨rfl, l1⟩; replace b3 := b3.keep l1; replace b7 := b7.keep l1; replace lw := Later.trans_ lw l1)
    | ((with_reducible refine wpList_store_abs (o := ⟨none, .store 23 (.tmp 11) (.tmp 35), _, _, _, none⟩) rfl _ _ _ rfl w3.heap.size 23 zC.cells x.cells ?_ ?_ ?_ ?_ ?_ ?_ ?_); rfl; rfl; exact (Blk.new _ _ _ _ rfl); exact cn_sz _; rfl; exact cn_one _; intro u3 b11 ob11; replace b3 := (b3.alloc (.cells zC.cells.toArray 23)).only ob11 (Nat.ne_of_lt b3.lt); replace b7 := (b7.alloc (.cells zC.cells.toArray 23)).only ob11 (Nat.ne_of_lt b7.lt); replace lw := Below.only (lw.alloc lw.size (.cells zC.cells.toArray 23)) ob11 lw.size; clear ob11))
  go_upto_region 9 with (first
    | ((with_reducible refine wpList_load_g (o := ⟨some 56, .load 23 (.tmp 7), _, _, _, _⟩) _ _ rfl w2.heap.size 23 x.cells _ ?_ ?_ ?_ Try.underlying23 ?_ (cn_sz _) ?_); rfl; rfl; exact b7; rfl)
    | ((with_reducible refine wpList_load_g (o := ⟨some 57, .load 23 (.tmp 3), _, _, _, _⟩) _ _ rfl w.heap.size 23 x.cells _ ?_ ?_ ?_ Try.underlying23 ?_ (cn_sz _) ?_); rfl; rfl; exact b3; rfl)
    | ((with_reducible refine wpList_load_g (o := ⟨some 72, .load 23 (.tmp 11), _, _, _, _⟩) _ _ rfl w3.heap.size 23 x.cells _ ?_ ?_ ?_ Try.underlying23 ?_ (cn_sz _) ?_); rfl; rfl; exact b11; rfl)
    | ((with_reducible refine wpList_load_g (o := ⟨some 73, .load 23 (.tmp 3), _, _, _, _⟩) _ _ rfl w.heap.size 23 x.cells _ ?_ ?_ ?_ Try.underlying23 ?_ (cn_sz _) ?_); rfl; rfl; exact b3; rfl))
  go_wp2_with (first
    | (go_at_call 7; (with_reducible refine (KS.out _).mono ?_); rintro e w4 ⟨rfl, l1⟩; replace b3 := b3.keep l1; replace b7 := b7.keep l1; replace b11 := b11.keep l1; replace lw := Later.trans_ lw l1; have f0 := b3.cell (cn_s x))
    | ((with_reducible refine wpList_load_g (o := ⟨some 90, .load 23 (.tmp 7), _, _, _, _⟩) _ _ rfl w2.heap.size 23 x.cells _ ?_ ?_ ?_ Try.underlying23 ?_ (cn_sz _) ?_); rfl; rfl; exact b7; rfl)
    | ((with_reducible refine wpList_load_g (o := ⟨some 91, .load 23 (.tmp 3), _, _, _, _⟩) _ _ rfl w.heap.size 23 x.cells _ ?_ ?_ ?_ Try.underlying23 ?_ (cn_sz _) ?_); rfl; rfl; exact b3; rfl))
  go_ret
  exact ⟨rfl, lw⟩
set_option maxRecDepth 100000 in
set_option maxHeartbeats 8000000 in
theorem three_pp (x : Cn) (p : Int) (g0 : ((32 : Int) == p) = false) (g1 : ((33 : Int) == p) = false) (g2 : ((34 : Int) == p) = false) (g3 : (p == (32 : Int)) = false) (g4 : (p == (33 : Int)) = false) (g5 : (p == (34 : Int)) = false) (g6 : (p != (34 : Int)) = true) (g7 : (p != (32 : Int)) = true) (v : Int) (w : World) (hok : x.ok = true) : Calls Try.prog 6 #[.agg x.cells.toArray, .int .i64 p, .int .u32 v] w fun e w' => e = .returned (.bool true) ∧ Later w w' := by
  have KS := Lib.hid fun w' => sanity_any w'
  have KR := Lib.hid fun w' => rvalid_any x w'
  rw [hok] at KR
  have hz := (ok_open hok).1
  have b3 := (Blk.new' w w.heap.size 23 (x.cells).toArray (x.cells) (by simp) rfl)
  have lw := (later1 w (.cells (x.cells).toArray 23))
  obtain ⟨u0, hu⟩ : ∃ u, (w.alloc (.cells (x.cells).toArray 23)) = u := ⟨_, rfl⟩
  rw [hu] at b3 lw
  have KA := Lib.hid fun w' => (show Calls Try.prog 13 #[.agg x.cells.toArray, .agg #[.bool true, .int .i64 p, .int .u32 v]] w' fun e w'' => e = .returned (.tuple #[.agg x.cells.toArray, .int .u32 0, .string ⟨#[]⟩, .bool false]) ∧ Later w' w'' from port_nt x p g0 g1 g2 v w' hz)
  have KB := Lib.hid fun w' => (show Calls Try.prog 13 #[.agg x.cells.toArray, .agg #[.bool false, .int .i64 p, .int .u32 v]] w' fun e w'' => e = .returned (.tuple #[.agg x.cells.toArray, .int .u32 0, .string ⟨#[]⟩, .bool false]) ∧ Later w' w'' from port_nf x p g0 g1 g2 v w' hz)
  have hq := cn_same x
  clear hz hok
  go_enter Try.func6, Try.ntmps6
  go_upto_region 1 with fail
  have hu2 : (w.alloc (.cells (x.cells).toArray 23)) = u0 := hu
  try rw [hu2]
  clear hu hu2
  go_upto_region 4 with (first
    | ((with_reducible refine wpList_load_blk (o := ⟨some 15, .load 23 (.tmp 3), _, _, _, none⟩) rfl _ _ rfl w.heap.size 23 x.cells _ ?_ ?_ Try.underlying23 rfl (cn_sz _) ?_); rfl; exact b3)
    | (go_at_call 9; (with_reducible refine (KR.out _).mono ?_); rintro e w1 ⟨rfl, l1⟩; replace b3 := b3.keep l1; replace lw := Later.trans_ lw l1)
    | ((with_reducible refine wpList_load_blk (o := ⟨some 20, .load 23 (.tmp 3), _, _, _, none⟩) rfl _ _ rfl w.heap.size 23 x.cells _ ?_ ?_ Try.underlying23 rfl (cn_sz _) ?_); rfl; exact b3)
    | (go_at_call 13; (with_reducible refine (KA.out _).mono ?_); rintro e w2 ⟨rfl, l1⟩; replace b3 := b3.keep l1; replace lw := Later.trans_ lw l1)
    | ((with_reducible refine wpList_store_abs (o := ⟨none, .store 23 (.tmp 7) (.tmp 25), _, _, _, none⟩) rfl _ _ _ rfl w2.heap.size 23 zC.cells x.cells ?_ ?_ ?_ ?_ ?_ ?_ ?_); rfl; rfl; exact (Blk.new _ _ _ _ rfl); exact cn_sz _; rfl; exact cn_one _; intro u2 b7 ob7; replace b3 := (b3.alloc (.cells zC.cells.toArray 23)).only ob7 (Nat.ne_of_lt b3.lt); replace lw := Below.only (lw.alloc lw.size (.cells zC.cells.toArray 23)) ob7 lw.size; clear ob7))
  go_upto_region 5 with (first
    | ((with_reducible refine wpList_load_blk (o := ⟨some 30, .load 23 (.tmp 3), _, _, _, none⟩) rfl _ _ rfl w.heap.size 23 x.cells _ ?_ ?_ Try.underlying23 rfl (cn_sz _) ?_); rfl; exact b3)
    | (go_at_call 13; (with_reducible refine (KB.out _).mono ?_); rintro e w3 ⟨rfl, l1⟩; replace b3 := b3.keep l1; replace b7 := b7.keep l1; replace lw := Later.trans_ lw l1)
    | ((with_reducible refine wpList_store_abs (o := ⟨none, .store 23 (.tmp 11) (.tmp 35), _, _, _, none⟩) rfl _ _ _ rfl w3.heap.size 23 zC.cells x.cells ?_ ?_ ?_ ?_ ?_ ?_ ?_); rfl; rfl; exact (Blk.new _ _ _ _ rfl); exact cn_sz _; rfl; exact cn_one _; intro u3 b11 ob11; replace b3 := (b3.alloc (.cells zC.cells.toArray 23)).only ob11 (Nat.ne_of_lt b3.lt); replace b7 := (b7.alloc (.cells zC.cells.toArray 23)).only ob11 (Nat.ne_of_lt b7.lt); replace lw := Below.only (lw.alloc lw.size (.cells zC.cells.toArray 23)) ob11 lw.size; clear ob11))
  go_upto_region 9 with (first
    | ((with_reducible refine wpList_load_g (o := ⟨some 56, .load 23 (.tmp 7), _, _, _, _⟩) _ _ rfl w2.heap.size 23 x.cells _ ?_ ?_ ?_ Try.underlying23 ?_ (cn_sz _) ?_); rfl; rfl; exact b7; rfl)
    | ((with_reducible refine wpList_load_g (o := ⟨some 57, .load 23 (.tmp 3), _, _, _, _⟩) _ _ rfl w.heap.size 23 x.cells _ ?_ ?_ ?_ Try.underlying23 ?_ (cn_sz _) ?_); rfl; rfl; exact b3; rfl)
    | ((with_reducible refine wpList_load_g (o := ⟨some 72, .load 23 (.tmp 11), _, _, _, _⟩) _ _ rfl w3.heap.size 23 x.cells _ ?_ ?_ ?_ Try.underlying23 ?_ (cn_sz _) ?_); rfl; rfl; exact b11; rfl)
    | ((with_reducible refine wpList_load_g (o := ⟨some 73, .load 23 (.tmp 3), _, _, _, _⟩) _ _ rfl w.heap.size 23 x.cells _ ?_ ?_ ?_ Try.underlying23 ?_ (cn_sz _) ?_); rfl; rfl; exact b3; rfl))
  go_wp2_with (first
    | (go_at_call 7; (with_reducible refine (KS.out _).mono ?_); rintro e w4 ⟨rfl, l1⟩; replace b3 := b3.keep l1; replace b7 := b7.keep l1; replace b11 := b11.keep l1; replace lw := Later.trans_ lw l1; have f0 := b3.cell (cn_s x))
    | ((with_reducible refine wpList_load_g (o := ⟨some 90, .load 23 (.tmp 7), _, _, _, _⟩) _ _ rfl w2.heap.size 23 x.cells _ ?_ ?_ ?_ Try.underlying23 ?_ (cn_sz _) ?_); rfl; rfl; exact b7; rfl)
    | ((with_reducible refine wpList_load_g (o := ⟨some 91, .load 23 (.tmp 3), _, _, _, _⟩) _ _ rfl w.heap.size 23 x.cells _ ?_ ?_ ?_ Try.underlying23 ?_ (cn_sz _) ?_); rfl; rfl; exact b3; rfl))
  go_ret
  exact ⟨rfl, lw⟩
set_option maxRecDepth 100000 in
set_option maxHeartbeats 8000000 in
theorem three_no (x : Cn) (p v : Int) (w : World) (hok : x.ok = false) : Calls Try.prog 6 #[.agg x.cells.toArray, .int .i64 p, .int .u32 v] w fun e w' => e = .returned (.bool true) ∧ Later w w' := by
  have KS := Lib.hid fun w' => sanity_any w'
  have KR := Lib.hid fun w' => rvalid_any x w'
  rw [hok] at KR
  clear hok
  have b3 := (Blk.new' w w.heap.size 23 (x.cells).toArray (x.cells) (by simp) rfl)
  have lw := (later1 w (.cells (x.cells).toArray 23))
  obtain ⟨u0, hu⟩ : ∃ u, (w.alloc (.cells (x.cells).toArray 23)) = u := ⟨_, rfl⟩
  rw [hu] at b3 lw
  go_enter Try.func6, Try.ntmps6
  go_upto_region 1 with fail
  have hu2 : (w.alloc (.cells (x.cells).toArray 23)) = u0 := hu
  try rw [hu2]
  clear hu hu2
  go_wp2_with (first
  | ((with_reducible refine wpList_load_blk (o := ⟨some 15, .load 23 (.tmp 3), _, _, _, none⟩) rfl _ _ rfl w.heap.size 23 x.cells _ ?_ ?_ Try.underlying23 rfl (cn_sz _) ?_); rfl; exact b3)
  | (go_at_call 9; (with_reducible refine (KR.out _).mono ?_); rintro e w1 ⟨rfl, l1⟩; replace b3 := b3.keep l1; replace lw := Later.trans_ lw l1)
  | (go_at_call 7; (with_reducible refine (KS.out _).mono ?_); rintro e w3 ⟨rfl, l1⟩; replace b3 := b3.keep l1; replace lw := Later.trans_ lw l1))
  go_ret
  exact ⟨rfl, lw⟩
theorem three_all (x : Cn) (p v : Int) (w : World) : Calls Try.prog 6 #[.agg x.cells.toArray, .int .i64 p, .int .u32 v] w fun e w' => e = .returned (.bool true) ∧ Later w w' := by
  cases hok : x.ok with
  | false => exact three_no x p v w hok
  | true =>
    by_cases h32 : p = 32
    · subst h32; exact three_p32 x v w hok
    · by_cases h33 : p = 33
      · subst h33; exact three_p33 x v w hok
      · by_cases h34 : p = 34
        · subst h34; exact three_p34 x v w hok
        · exact three_pp x p (beq_false_of_ne (Ne.symm h32)) (beq_false_of_ne (Ne.symm h33)) (beq_false_of_ne (Ne.symm h34)) (beq_false_of_ne h32) (beq_false_of_ne h33) (beq_false_of_ne h34) (by simp [h34]) (by simp [h32]) v w hok

set_option maxRecDepth 100000 in
theorem consoleHasThreePorts_lifted (os : Os) (started : os.Started) (H : Type) (enc : TypeId × Value → H) :
    ReturnsInHanded {} Try.checked os 6 .any (Rows.consoleHasThreePortsSpec.pre6 enc Try.prog Try.f6 Rows.consoleHasThreePortsRow.domain false) (Rows.consoleHasThreePortsSpec.post enc Try.prog Try.f6 false true false false) := by
  refine returnsInHanded_of_change (C := Try.checked) ownK started (by kernel_rfl) Try.func6
    (ChangeSpec.witness6 (enc := enc) (C := Try.checked) false ⟨#[], #[.agg #[.string ⟨#[]⟩, .int .i64 0], .int .i64 0, .int .u32 0], []⟩ 8 (by kernel_rfl) (by kernel_rfl) (by kernel_rfl) (by kernel_rfl)) ?_
  intro W base args ds gs before hval0 hW hcnd _
  have hval : ∀ (j : Nat) t v, Try.f6.params[j]? = some t → args[j]? = some v → Value.okWide Try.prog W .any base t v := hval0
  have hW' := hW
  obtain ⟨p, q, hA0, hV, rfl, hfz, hnd⟩ := hW
  have hA : DataW.TrodAll enc Try.prog W 0 (fun _ => true) true Try.f6.params.toList args.toList ds p := hA0
  rw [Try.params6] at hA hval
  obtain ⟨v0, vs0, d0, ds0, p0, q0, hargs, rfl, rfl, h0, r0⟩ := trodAll_cons hA
  obtain ⟨v1, vs1, d1, ds1, p1, q1, rfl, rfl, rfl, h1, r1⟩ := trodAll_cons r0
  obtain ⟨v2, vs2, d2, ds2, p2, q2, rfl, rfl, rfl, h2, r2⟩ := trodAll_cons r1
  obtain ⟨rfl, rfl, rfl⟩ := trodAll_nil r2
  obtain rfl : args = #[v0, v1, v2] := by cases args; simp_all
  obtain ⟨rfl, rfl⟩ := trodVars_none hV
  obtain ⟨a0, rfl, z0⟩ := cn_open (hval 0 23 v0 rfl rfl) h0
  obtain ⟨a1, rfl, z1⟩ := int_arg Try.underlying3 (hval 1 3 v1 rfl rfl) h1
  obtain ⟨a2, rfl, _, _, w2⟩ := open_int Try.underlying24 (hval 2 24 v2 rfl rfl) h2
  have z2 : 0 ≤ a2 ∧ a2 ≤ 4294967295 := by
    have e1 : IntKind.u32.min = 0 := rfl
    have e2 : IntKind.u32.max = 4294967295 := rfl
    simp only [Lit.wf, Bool.and_eq_true, decide_eq_true_eq] at w2
    omega
  clear hA0 hval0
  simp only [List.append_nil] at hW'
  refine (three_all a0 a1 a2 W).mono fun e W' ⟨he, hw⟩ => ?_
  subst he
  exact ⟨_, rfl, law_post laidK rfl (by kernel_rfl) (by kernel_rfl) Try.underlying4 (by kernel_rfl) hW' rfl hw⟩
set_option maxRecDepth 100000 in
/-- The statement. -/
theorem consoleHasThreePorts_said : Rows.ConsoleHasThreePortsSaid :=
  OpenClaim.holds_of_wide 6 Try.f6 rfl rfl rfl rfl rfl rfl rfl ⟨rfl, rfl, rfl, rfl, rfl⟩ rfl rfl rfl rfl rfl (by kernel_rfl) Try.func6 (by kernel_rfl)
    (of_decide_eq_true (by kernel_rfl)) (by unfold Func.isWrapper; first | (rw [if_pos (by decide +kernel)]; kernel_rfl) | (rw [if_neg (by decide +kernel)]; exact ⟨rfl, rfl⟩))
    (fun os started H enc _ => consoleHasThreePorts_lifted os started H enc)
#print axioms consoleHasThreePorts_said
end Go.Proofs.Ytkhgaikfomcjeaa
