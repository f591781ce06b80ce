/-
  A CLOCK: the reference's Offer, Read, Set, Fire.
-/
import Derived.Test.YtdohocbpjpnmeaaCloE
import Derived.Deep.RegionHeld
namespace Go.Proofs.Ytdohocbpjpnmeaa
open Go.RowKit Go.ChangeShapes Go.WideShapes Go.ChangeAt

def gotC (x : Clk) (v : Int) (b : Bool) (e : Int) : List Value := x.cells ++ [.int .u32 v, .bool b, .int .i64 e]
theorem got_sz (x : Clk) (v : Int) (b : Bool) (e : Int) : (Try.prog.info? 35).map (·.size) = some (gotC x v b e).length := by
  show _ = some 16
  kernel_rfl
theorem got_one (x : Clk) (v : Int) (b : Bool) (e : Int) : ∀ u ∈ gotC x v b e, u.oneCell' = true := by
  intro u hu
  rcases List.mem_append.1 hu with h | h
  · exact clk_one x u h
  · simp only [List.mem_cons, List.not_mem_nil, or_false] at h
    rcases h with rfl | rfl | rfl <;> rfl
theorem got_ret {fn : Func} {p : Tmp} (h : fn.results = #[.cell p 35]) (tmps : Array Value) (w : World) (B : Nat) (x : Clk) (v : Int) (b : Bool) (e : Int) (hp : tmps.getD p undef = .pointer (some ⟨B, 0, none⟩)) (hb : Blk w B 35 (gotC x v b e)) :
    (results fn tmps).run Try.prog w = .ok (.agg (gotC x v b e).toArray) w :=
  results_blk h tmps w B 35 _ _ hp hb Try.underlying35 rfl (got_sz _ _ _ _)
theorem built_g0 (y : Clk) : Try.prog.built 35 [(0, .agg y.cells.toArray)] = some (gotC y 0 false 0).toArray := by kernel_rfl
theorem built_ge (y : Clk) (e : Int) : Try.prog.built 35 [(0, .agg y.cells.toArray), (3, .int .i64 e)] = some (gotC y 0 false e).toArray := by kernel_rfl
theorem built_gv (y : Clk) (v : Int) : Try.prog.built 35 [(0, .agg y.cells.toArray), (1, .int .u32 v)] = some (gotC y v false 0).toArray := by kernel_rfl
theorem built_gt (y : Clk) : Try.prog.built 35 [(0, .agg y.cells.toArray), (2, .bool true)] = some (gotC y 0 true 0).toArray := by kernel_rfl
theorem built_gE (e : Int) : Try.prog.built 35 [(3, .int .i64 e)] = some (gotC zK 0 false e).toArray := by kernel_rfl
theorem run_g0 (y : Clk) (w : World) : (Instr.build 35 #[(0, .agg y.cells.toArray)]).run Try.prog w = .ok (.agg (gotC y 0 false 0).toArray) w := run_build w _ _ _ (built_g0 y)
theorem run_ge (y : Clk) (e : Int) (w : World) : (Instr.build 35 #[(0, .agg y.cells.toArray), (3, .int .i64 e)]).run Try.prog w = .ok (.agg (gotC y 0 false e).toArray) w := run_build w _ _ _ (built_ge y e)
theorem run_gv (y : Clk) (v : Int) (w : World) : (Instr.build 35 #[(0, .agg y.cells.toArray), (1, .int .u32 v)]).run Try.prog w = .ok (.agg (gotC y v false 0).toArray) w := run_build w _ _ _ (built_gv y v)
theorem run_gt (y : Clk) (w : World) : (Instr.build 35 #[(0, .agg y.cells.toArray), (2, .bool true)]).run Try.prog w = .ok (.agg (gotC y 0 true 0).toArray) w := run_build w _ _ _ (built_gt y)
theorem run_gE (e : Int) (w : World) : (Instr.build 35 #[(3, .int .i64 e)]).run Try.prog w = .ok (.agg (gotC zK 0 false e).toArray) w := run_build w _ _ _ (built_gE e)
set_option maxRecDepth 100000 in
set_option maxHeartbeats 4000000 in
theorem roffer_any (x : Clk) (c t : Int) (w : World) : Calls Try.prog 15 #[.agg x.cells.toArray, .int .i64 c, .int .i64 t] w fun e w' => e = .returned (.agg (gotC (x.offerC c t) 0 false (x.offerE c t)).toArray) ∧ Later w w' := by
  have b3 := (Blk.new w 25 x.cells.toArray x.cells rfl).alloc (.cells (gotC zK 0 false 0).toArray 35)
  have b6 := Blk.new' (w.alloc (.cells x.cells.toArray 25)) (w.heap.size + 1) 35 (gotC zK 0 false 0).toArray (gotC zK 0 false 0) (by simp) rfl
  have lw := (later1 w (.cells x.cells.toArray 25)).alloc (by simp) (.cells (gotC zK 0 false 0).toArray 35)
  obtain ⟨u0, hu⟩ : ∃ u0, (w.alloc (.cells x.cells.toArray 25)).alloc (.cells (gotC zK 0 false 0).toArray 35) = u0 := ⟨_, rfl⟩
  rw [hu] at b3 b6 lw
  have n3 := Nat.ne_of_lt b3.lt
  have n6 := Nat.ne_of_lt b6.lt
  have nw := lw.size
  have KC := Lib.hid fun w' => is_any c w'
  cases hc : isC c with
  | false =>
    rw [hc] at KC
    have hE : x.offerE c t = 1 := by unfold Clk.offerE; rw [hc]; rfl
    have hX : x.offerC c t = x := if_neg (by rw [hE]; decide)
    rw [hE, hX]
    clear hE hX
    clear hc
    go_enter Try.func15, Try.ntmps15
    go_upto_region 1 with fail
    have hu2 : (w.alloc (.cells x.cells.toArray 25)).alloc (.cells #[.int .i64 0, .bool false, .bool false, .bool false, .bool false, .int .i64 0, .int .i64 0, .int .i64 0, .int .i64 0, .int .i64 0, .int .i64 0, .int .i64 0, .int .i64 0, .int .u32 0, .bool false, .int .i64 0] 35) = u0 := hu
    rw [hu2]
    clear hu hu2
    go_wp2_with (first
      | (go_at_call 35; (with_reducible refine (KC.out _).mono ?_); rintro e v1 ⟨rfl, rfl⟩)
      | ((with_reducible refine wpList_load_blk (o := ⟨some 13, .load 25 (.tmp 3), _, _, _, none⟩) rfl _ _ rfl w.heap.size 25 x.cells _ ?_ ?_ Try.underlying25 rfl (clk_sz _) ?_); rfl; exact b3)
      | ((with_reducible refine wpList_bld (o := ⟨some 14, .build 35 #[(0, .tmp 13), (3, .const (.int .i64 1))], _, _, _, none⟩) rfl _ #[(0, .tmp 13), (3, .const (.int .i64 1))] #[(0, .agg x.cells.toArray), (3, .int .i64 1)] (gotC x 0 false 1).toArray rfl ?_ (run_ge x 1 _) ?_); rfl)
      | ((with_reducible refine wpList_store_abs (o := ⟨none, .store 35 (.tmp 6) (.tmp 14), _, _, _, none⟩) rfl _ _ _ rfl (w.heap.size + 1) 35 (gotC zK 0 false 0) (gotC x 0 false 1) ?_ ?_ ?_ ?_ ?_ ?_ ?_); rfl; rfl; exact b6; exact got_sz _ _ _ _; rfl; exact got_one _ _ _ _; intro w9 b9 o9))
    exact bodyPost_ret (got_ret Try.results15 _ _ (w.heap.size + 1) x 0 false 1 rfl b9) rfl ⟨rfl, Below.only lw o9 (by omega)⟩
  | true =>
    rw [hc] at KC
    obtain ⟨k, rfl, hk⟩ := isC_open hc
    have hk4 : (k : Int) < 4 := by omega
    have hk0 : (0 : Int) ≤ k := by omega
    cases ht : isT t with
    | false =>
      have hE : x.offerE (k : Int) t = 7 := by unfold Clk.offerE; rw [hc, ht]; rfl
      have hX : x.offerC (k : Int) t = x := if_neg (by rw [hE]; decide)
      rw [hE, hX]
      clear hE hX
      have ht2 := of_decide_eq_false ht
      clear hc ht
      by_cases t0 : t < 0
      · have d0 : decide (t < 0) = true := decide_eq_true t0
        clear ht2
        go_enter Try.func15, Try.ntmps15
        go_upto_region 1 with fail
        have hu2 : (w.alloc (.cells x.cells.toArray 25)).alloc (.cells #[.int .i64 0, .bool false, .bool false, .bool false, .bool false, .int .i64 0, .int .i64 0, .int .i64 0, .int .i64 0, .int .i64 0, .int .i64 0, .int .i64 0, .int .i64 0, .int .u32 0, .bool false, .int .i64 0] 35) = u0 := hu
        rw [hu2]
        clear hu hu2
        go_wp2_with (first
          | (go_at_call 35; (with_reducible refine (KC.out _).mono ?_); rintro e v1 ⟨rfl, rfl⟩)
          | ((with_reducible refine wpList_load_blk (o := ⟨some 21, .load 25 (.tmp 3), _, _, _, none⟩) rfl _ _ rfl w.heap.size 25 x.cells _ ?_ ?_ Try.underlying25 rfl (clk_sz _) ?_); rfl; exact b3)
          | ((with_reducible refine wpList_bld (o := ⟨some 22, .build 35 #[(0, .tmp 21), (3, .const (.int .i64 7))], _, _, _, none⟩) rfl _ #[(0, .tmp 21), (3, .const (.int .i64 7))] #[(0, .agg x.cells.toArray), (3, .int .i64 7)] (gotC x 0 false 7).toArray rfl ?_ (run_ge x 7 _) ?_); rfl)
          | ((with_reducible refine wpList_store_abs (o := ⟨none, .store 35 (.tmp 6) (.tmp 22), _, _, _, none⟩) rfl _ _ _ rfl (w.heap.size + 1) 35 (gotC zK 0 false 0) (gotC x 0 false 7) ?_ ?_ ?_ ?_ ?_ ?_ ?_); rfl; rfl; exact b6; exact got_sz _ _ _ _; rfl; exact got_one _ _ _ _; intro w9 b9 o9))
        exact bodyPost_ret (got_ret Try.results15 _ _ (w.heap.size + 1) x 0 false 7 rfl b9) rfl ⟨rfl, Below.only lw o9 (by omega)⟩
      · have d0 : decide (t < 0) = false := decide_eq_false t0
        have d1 : decide (2147483647 < t) = true := decide_eq_true (by omega)
        clear ht2
        go_enter Try.func15, Try.ntmps15
        go_upto_region 1 with fail
        have hu2 : (w.alloc (.cells x.cells.toArray 25)).alloc (.cells #[.int .i64 0, .bool false, .bool false, .bool false, .bool false, .int .i64 0, .int .i64 0, .int .i64 0, .int .i64 0, .int .i64 0, .int .i64 0, .int .i64 0, .int .i64 0, .int .u32 0, .bool false, .int .i64 0] 35) = u0 := hu
        rw [hu2]
        clear hu hu2
        go_wp2_with (first
          | (go_at_call 35; (with_reducible refine (KC.out _).mono ?_); rintro e v1 ⟨rfl, rfl⟩)
          | ((with_reducible refine wpList_load_blk (o := ⟨some 21, .load 25 (.tmp 3), _, _, _, none⟩) rfl _ _ rfl w.heap.size 25 x.cells _ ?_ ?_ Try.underlying25 rfl (clk_sz _) ?_); rfl; exact b3)
          | ((with_reducible refine wpList_bld (o := ⟨some 22, .build 35 #[(0, .tmp 21), (3, .const (.int .i64 7))], _, _, _, none⟩) rfl _ #[(0, .tmp 21), (3, .const (.int .i64 7))] #[(0, .agg x.cells.toArray), (3, .int .i64 7)] (gotC x 0 false 7).toArray rfl ?_ (run_ge x 7 _) ?_); rfl)
          | ((with_reducible refine wpList_store_abs (o := ⟨none, .store 35 (.tmp 6) (.tmp 22), _, _, _, none⟩) rfl _ _ _ rfl (w.heap.size + 1) 35 (gotC zK 0 false 0) (gotC x 0 false 7) ?_ ?_ ?_ ?_ ?_ ?_ ?_); rfl; rfl; exact b6; exact got_sz _ _ _ _; rfl; exact got_one _ _ _ _; intro w9 b9 o9))
        exact bodyPost_ret (got_ret Try.results15 _ _ (w.heap.size + 1) x 0 false 7 rfl b9) rfl ⟨rfl, Below.only lw o9 (by omega)⟩
    | true =>
      have ht2 := of_decide_eq_true ht
      have d0 : decide (t < 0) = false := decide_eq_false (by omega)
      have d1 : decide (2147483647 < t) = false := decide_eq_false (by omega)
      by_cases hl : t < x.l
      · have d2 : decide (t < x.l) = true := decide_eq_true hl
        have hE : x.offerE (k : Int) t = 9 := by unfold Clk.offerE; rw [hc, ht, d2]; rfl
        have hX : x.offerC (k : Int) t = x := if_neg (by rw [hE]; decide)
        rw [hE, hX]
        clear hE hX
        have e0 := b3.cell (clk_l x)
        clear hc ht ht2
        go_enter Try.func15, Try.ntmps15
        go_upto_region 1 with fail
        have hu2 : (w.alloc (.cells x.cells.toArray 25)).alloc (.cells #[.int .i64 0, .bool false, .bool false, .bool false, .bool false, .int .i64 0, .int .i64 0, .int .i64 0, .int .i64 0, .int .i64 0, .int .i64 0, .int .i64 0, .int .i64 0, .int .u32 0, .bool false, .int .i64 0] 35) = u0 := hu
        rw [hu2]
        clear hu hu2
        go_wp2_with (first
          | (go_at_call 35; (with_reducible refine (KC.out _).mono ?_); rintro e v1 ⟨rfl, rfl⟩)
          | ((with_reducible refine wpList_load_blk (o := ⟨some 27, .load 25 (.tmp 3), _, _, _, none⟩) rfl _ _ rfl w.heap.size 25 x.cells _ ?_ ?_ Try.underlying25 rfl (clk_sz _) ?_); rfl; exact b3)
          | ((with_reducible refine wpList_bld (o := ⟨some 28, .build 35 #[(0, .tmp 27), (3, .const (.int .i64 9))], _, _, _, none⟩) rfl _ #[(0, .tmp 27), (3, .const (.int .i64 9))] #[(0, .agg x.cells.toArray), (3, .int .i64 9)] (gotC x 0 false 9).toArray rfl ?_ (run_ge x 9 _) ?_); rfl)
          | ((with_reducible refine wpList_store_abs (o := ⟨none, .store 35 (.tmp 6) (.tmp 28), _, _, _, none⟩) rfl _ _ _ rfl (w.heap.size + 1) 35 (gotC zK 0 false 0) (gotC x 0 false 9) ?_ ?_ ?_ ?_ ?_ ?_ ?_); rfl; rfl; exact b6; exact got_sz _ _ _ _; rfl; exact got_one _ _ _ _; intro w9 b9 o9))
        exact bodyPost_ret (got_ret Try.results15 _ _ (w.heap.size + 1) x 0 false 9 rfl b9) rfl ⟨rfl, Below.only lw o9 (by omega)⟩
      · have d2 : decide (t < x.l) = false := decide_eq_false hl
        have e0 := b3.cell (clk_l x)
        have e1 := b3.cell (clk_o x hk)
        cases ho : x.o k with
        | true =>
          rw [ho] at e1
          rw [← off_nat x hk] at ho
          have hE : x.offerE (k : Int) t = 4 := by unfold Clk.offerE; rw [hc, ht, d2, ho]; rfl
          have hX : x.offerC (k : Int) t = x := if_neg (by rw [hE]; decide)
          rw [hE, hX]
          clear hE hX
          clear hc ht ho ht2
          go_enter Try.func15, Try.ntmps15
          go_upto_region 1 with fail
          have hu2 : (w.alloc (.cells x.cells.toArray 25)).alloc (.cells #[.int .i64 0, .bool false, .bool false, .bool false, .bool false, .int .i64 0, .int .i64 0, .int .i64 0, .int .i64 0, .int .i64 0, .int .i64 0, .int .i64 0, .int .i64 0, .int .u32 0, .bool false, .int .i64 0] 35) = u0 := hu
          rw [hu2]
          clear hu hu2
          go_wp2_with (first
            | (go_at_call 35; (with_reducible refine (KC.out _).mono ?_); rintro e v1 ⟨rfl, rfl⟩)
            | ((with_reducible refine wpList_load_blk (o := ⟨some 33, .load 25 (.tmp 3), _, _, _, none⟩) rfl _ _ rfl w.heap.size 25 x.cells _ ?_ ?_ Try.underlying25 rfl (clk_sz _) ?_); rfl; exact b3)
            | ((with_reducible refine wpList_bld (o := ⟨some 34, .build 35 #[(0, .tmp 33), (3, .const (.int .i64 4))], _, _, _, none⟩) rfl _ #[(0, .tmp 33), (3, .const (.int .i64 4))] #[(0, .agg x.cells.toArray), (3, .int .i64 4)] (gotC x 0 false 4).toArray rfl ?_ (run_ge x 4 _) ?_); rfl)
            | ((with_reducible refine wpList_store_abs (o := ⟨none, .store 35 (.tmp 6) (.tmp 34), _, _, _, none⟩) rfl _ _ _ rfl (w.heap.size + 1) 35 (gotC zK 0 false 0) (gotC x 0 false 4) ?_ ?_ ?_ ?_ ?_ ?_ ?_); rfl; rfl; exact b6; exact got_sz _ _ _ _; rfl; exact got_one _ _ _ _; intro w9 b9 o9))
          exact bodyPost_ret (got_ret Try.results15 _ _ (w.heap.size + 1) x 0 false 4 rfl b9) rfl ⟨rfl, Below.only lw o9 (by omega)⟩
        | false =>
          rw [ho] at e1
          rw [← off_nat x hk] at ho
          have hE : x.offerE (k : Int) t = 0 := by unfold Clk.offerE; rw [hc, ht, d2, ho]; rfl
          have hX : x.offerC (k : Int) t = ({ x with l := t, o := upd x.o k true, r := upd x.r k t } : Clk) := by unfold Clk.offerC; rw [if_pos hE, Int.toNat_natCast]
          rw [hE, hX]
          clear hE hX hc ht ho ht2
          go_enter Try.func15, Try.ntmps15
          go_upto_region 1 with fail
          have hu2 : (w.alloc (.cells x.cells.toArray 25)).alloc (.cells #[.int .i64 0, .bool false, .bool false, .bool false, .bool false, .int .i64 0, .int .i64 0, .int .i64 0, .int .i64 0, .int .i64 0, .int .i64 0, .int .i64 0, .int .i64 0, .int .u32 0, .bool false, .int .i64 0] 35) = u0 := hu
          rw [hu2]
          clear hu hu2
          go_upto_region 10 with (go_at_call 35; (with_reducible refine (KC.out _).mono ?_); rintro e v1 ⟨rfl, rfl⟩)
          clear e0 e1 d0 d1 d2
          go_wp2_with (first
  | ((with_reducible refine wpList_load_blk (o := ⟨some 35, .load 25 (.tmp 3), _, _, _, none⟩) rfl _ _ rfl w.heap.size 25 x.cells _ ?_ ?_ Try.underlying25 rfl (clk_sz _) ?_); rfl; exact b3)
  | ((with_reducible refine wpList_store_abs (o := ⟨none, .store 25 (.tmp 8) (.tmp 35), _, _, _, none⟩) rfl _ _ _ rfl u0.heap.size 25 zK.cells x.cells ?_ ?_ ?_ ?_ ?_ ?_ ?_); rfl; rfl; exact (Blk.new _ _ _ _ rfl); exact clk_sz _; rfl; exact clk_one _; intro w1 b8 o8; replace b3 := (b3.alloc (.cells zK.cells.toArray 25)).only o8 n3; replace b6 := (b6.alloc (.cells zK.cells.toArray 25)).only o8 n6; replace lw := Below.only (lw.alloc nw (.cells zK.cells.toArray 25)) o8 nw; clear o8)
  | ((with_reducible refine wpList_set1 (o := ⟨none, .store 3 (.tmp 37) (.tmp 36), _, _, _, none⟩) rfl _ _ _ rfl rfl u0.heap.size 0 25 x.cells (.int .i64 t) ?_ ?_ ?_ ?_ ?_ ?_ ?_); rfl; rfl; exact b8; exact i_sz; exact (show 0 < 13 by omega); rfl; intro w4 bq oq; clear b8; have b8 := bq; rw [set_l] at b8; clear bq; replace b3 := b3.only oq n3; replace b6 := b6.only oq n6; replace lw := Below.only lw oq nw; clear oq)
  | ((with_reducible refine wpList_set1 (o := ⟨none, .store 4 (.tmp 40) (.const (.bool true)), _, _, _, none⟩) rfl _ _ _ rfl rfl u0.heap.size (1 + k) 25 ({ x with l := t } : Clk).cells (.bool true) ?_ ?_ ?_ ?_ ?_ ?_ ?_); rfl; rfl; exact b8; exact b_sz; exact (show 1 + k < 13 by omega); rfl; intro w5 bq oq; clear b8; have b8 := bq; rw [set_o _ hk] at b8; clear bq; replace b3 := b3.only oq n3; replace b6 := b6.only oq n6; replace lw := Below.only lw oq nw; clear oq)
  | ((with_reducible refine wpList_set1 (o := ⟨none, .store 3 (.tmp 44) (.tmp 42), _, _, _, none⟩) rfl _ _ _ rfl rfl u0.heap.size (5 + k) 25 ({ x with l := t, o := upd x.o k true } : Clk).cells (.int .i64 t) ?_ ?_ ?_ ?_ ?_ ?_ ?_); rfl; rfl; exact b8; exact i_sz; exact (show 5 + k < 13 by omega); rfl; intro w6 bq oq; clear b8; have b8 := bq; rw [set_r _ hk] at b8; clear bq; replace b3 := b3.only oq n3; replace b6 := b6.only oq n6; replace lw := Below.only lw oq nw; clear oq)
  | ((with_reducible refine wpList_load_blk (o := ⟨some 45, .load 25 (.tmp 8), _, _, _, none⟩) rfl _ _ rfl u0.heap.size 25 ({ x with l := t, o := upd x.o k true, r := upd x.r k t } : Clk).cells _ ?_ ?_ Try.underlying25 rfl (clk_sz _) ?_); rfl; exact b8)
  | ((with_reducible refine wpList_bld (o := ⟨some 46, .build 35 #[(0, .tmp 45)], _, _, _, none⟩) rfl _ #[(0, .tmp 45)] #[(0, .agg ({ x with l := t, o := upd x.o k true, r := upd x.r k t } : Clk).cells.toArray)] (gotC ({ x with l := t, o := upd x.o k true, r := upd x.r k t } : Clk) 0 false 0).toArray rfl ?_ (run_g0 ({ x with l := t, o := upd x.o k true, r := upd x.r k t } : Clk) _) ?_); rfl)
  | ((with_reducible refine wpList_store_abs (o := ⟨none, .store 35 (.tmp 6) (.tmp 46), _, _, _, none⟩) rfl _ _ _ rfl (w.heap.size + 1) 35 (gotC zK 0 false 0) (gotC ({ x with l := t, o := upd x.o k true, r := upd x.r k t } : Clk) 0 false 0) ?_ ?_ ?_ ?_ ?_ ?_ ?_); rfl; rfl; exact b6; exact got_sz _ _ _ _; rfl; exact got_one _ _ _ _; intro w9 b9 o9))
          exact bodyPost_ret (got_ret Try.results15 _ _ (w.heap.size + 1) ({ x with l := t, o := upd x.o k true, r := upd x.r k t } : Clk) 0 false 0 rfl b9) rfl ⟨rfl, Below.only lw o9 (by omega)⟩
set_option maxRecDepth 100000 in
set_option maxHeartbeats 4000000 in
theorem rread_any (x : Clk) (c : Int) (w : World) : Calls Try.prog 16 #[.agg x.cells.toArray, .int .i64 c] w fun e w' => e = .returned (.agg (gotC (x.readC c) (x.readV c) false (x.readE c)).toArray) ∧ Later w w' := by
  have b3 := (Blk.new w 25 x.cells.toArray x.cells rfl).alloc (.cells (gotC zK 0 false 0).toArray 35)
  have b6 := Blk.new' (w.alloc (.cells x.cells.toArray 25)) (w.heap.size + 1) 35 (gotC zK 0 false 0).toArray (gotC zK 0 false 0) (by simp) rfl
  have lw := (later1 w (.cells x.cells.toArray 25)).alloc (by simp) (.cells (gotC zK 0 false 0).toArray 35)
  obtain ⟨u0, hu⟩ : ∃ u0, (w.alloc (.cells x.cells.toArray 25)).alloc (.cells (gotC zK 0 false 0).toArray 35) = u0 := ⟨_, rfl⟩
  rw [hu] at b3 b6 lw
  have n3 := Nat.ne_of_lt b3.lt
  have n6 := Nat.ne_of_lt b6.lt
  have nw := lw.size
  have KC := Lib.hid fun w' => is_any c w'
  cases hc : isC c with
  | false =>
    rw [hc] at KC
    have hE : x.readE c = 1 := by unfold Clk.readE; rw [hc]; rfl
    have hX : x.readC c = x := if_neg (by rw [hE]; decide)
    have hV : x.readV c = 0 := if_neg (by rw [hE]; decide)
    rw [hE, hX, hV]
    clear hE hX hV
    clear hc
    go_enter Try.func16, Try.ntmps16
    go_upto_region 1 with fail
    have hu2 : (w.alloc (.cells x.cells.toArray 25)).alloc (.cells #[.int .i64 0, .bool false, .bool false, .bool false, .bool false, .int .i64 0, .int .i64 0, .int .i64 0, .int .i64 0, .int .i64 0, .int .i64 0, .int .i64 0, .int .i64 0, .int .u32 0, .bool false, .int .i64 0] 35) = u0 := hu
    rw [hu2]
    clear hu hu2
    go_wp2_with (first
      | (go_at_call 35; (with_reducible refine (KC.out _).mono ?_); rintro e v1 ⟨rfl, rfl⟩)
      | ((with_reducible refine wpList_load_blk (o := ⟨some 11, .load 25 (.tmp 2), _, _, _, none⟩) rfl _ _ rfl w.heap.size 25 x.cells _ ?_ ?_ Try.underlying25 rfl (clk_sz _) ?_); rfl; exact b3)
      | ((with_reducible refine wpList_bld (o := ⟨some 12, .build 35 #[(0, .tmp 11), (3, .const (.int .i64 1))], _, _, _, none⟩) rfl _ #[(0, .tmp 11), (3, .const (.int .i64 1))] #[(0, .agg x.cells.toArray), (3, .int .i64 1)] (gotC x 0 false 1).toArray rfl ?_ (run_ge x 1 _) ?_); rfl)
      | ((with_reducible refine wpList_store_abs (o := ⟨none, .store 35 (.tmp 4) (.tmp 12), _, _, _, none⟩) rfl _ _ _ rfl (w.heap.size + 1) 35 (gotC zK 0 false 0) (gotC x 0 false 1) ?_ ?_ ?_ ?_ ?_ ?_ ?_); rfl; rfl; exact b6; exact got_sz _ _ _ _; rfl; exact got_one _ _ _ _; intro w9 b9 o9))
    exact bodyPost_ret (got_ret Try.results16 _ _ (w.heap.size + 1) x 0 false 1 rfl b9) rfl ⟨rfl, Below.only lw o9 (by omega)⟩
  | true =>
    rw [hc] at KC
    obtain ⟨k, rfl, hk⟩ := isC_open hc
    have hk4 : (k : Int) < 4 := by omega
    have hk0 : (0 : Int) ≤ k := by omega
    have e1 := b3.cell (clk_o x hk)
    cases ho : x.o k with
    | false =>
      rw [ho] at e1
      rw [← off_nat x hk] at ho
      have hE : x.readE (k : Int) = 4 := by unfold Clk.readE; rw [hc, ho]; rfl
      have hX : x.readC (k : Int) = x := if_neg (by rw [hE]; decide)
      have hV : x.readV (k : Int) = 0 := if_neg (by rw [hE]; decide)
      rw [hE, hX, hV]
      clear hE hX hV
      clear hc ho
      go_enter Try.func16, Try.ntmps16
      go_upto_region 1 with fail
      have hu2 : (w.alloc (.cells x.cells.toArray 25)).alloc (.cells #[.int .i64 0, .bool false, .bool false, .bool false, .bool false, .int .i64 0, .int .i64 0, .int .i64 0, .int .i64 0, .int .i64 0, .int .i64 0, .int .i64 0, .int .i64 0, .int .u32 0, .bool false, .int .i64 0] 35) = u0 := hu
      rw [hu2]
      clear hu hu2
      go_wp2_with (first
        | (go_at_call 35; (with_reducible refine (KC.out _).mono ?_); rintro e v1 ⟨rfl, rfl⟩)
        | ((with_reducible refine wpList_load_blk (o := ⟨some 18, .load 25 (.tmp 2), _, _, _, none⟩) rfl _ _ rfl w.heap.size 25 x.cells _ ?_ ?_ Try.underlying25 rfl (clk_sz _) ?_); rfl; exact b3)
        | ((with_reducible refine wpList_bld (o := ⟨some 19, .build 35 #[(0, .tmp 18), (3, .const (.int .i64 4))], _, _, _, none⟩) rfl _ #[(0, .tmp 18), (3, .const (.int .i64 4))] #[(0, .agg x.cells.toArray), (3, .int .i64 4)] (gotC x 0 false 4).toArray rfl ?_ (run_ge x 4 _) ?_); rfl)
        | ((with_reducible refine wpList_store_abs (o := ⟨none, .store 35 (.tmp 4) (.tmp 19), _, _, _, none⟩) rfl _ _ _ rfl (w.heap.size + 1) 35 (gotC zK 0 false 0) (gotC x 0 false 4) ?_ ?_ ?_ ?_ ?_ ?_ ?_); rfl; rfl; exact b6; exact got_sz _ _ _ _; rfl; exact got_one _ _ _ _; intro w9 b9 o9))
      exact bodyPost_ret (got_ret Try.results16 _ _ (w.heap.size + 1) x 0 false 4 rfl b9) rfl ⟨rfl, Below.only lw o9 (by omega)⟩
    | true =>
      rw [ho] at e1
      rw [← off_nat x hk] at ho
      have hE : x.readE (k : Int) = 0 := by unfold Clk.readE; rw [hc, ho]; rfl
      have hX : x.readC (k : Int) = ({ x with o := upd x.o k false, r := upd x.r k 0 } : Clk) := by unfold Clk.readC; rw [if_pos hE, Int.toNat_natCast]
      have hV : x.readV (k : Int) = wr32 (x.r k) := by unfold Clk.readV; rw [if_pos hE, Int.toNat_natCast]
      rw [hE, hX, hV]
      have HRV := Lib.hid (clk_r x hk)
      obtain ⟨z, hz⟩ : ∃ z, z = wr32 (x.r k) := ⟨_, rfl⟩
      obtain ⟨rv, hrv⟩ : ∃ z, z = x.r k := ⟨_, rfl⟩
      rw [← hrv] at HRV hz
      rw [← hrv, ← hz]
      have hz1 : IntKind.u32.wrap rv = z := hz.symm
      have hz2 : rv % 4294967296 = z := by rw [hz]; unfold wr32; rw [IntKind.wrap_u32]
      clear hE hX hV hc ho hz hrv
      go_enter Try.func16, Try.ntmps16
      go_upto_region 1 with fail
      have hu2 : (w.alloc (.cells x.cells.toArray 25)).alloc (.cells #[.int .i64 0, .bool false, .bool false, .bool false, .bool false, .int .i64 0, .int .i64 0, .int .i64 0, .int .i64 0, .int .i64 0, .int .i64 0, .int .i64 0, .int .i64 0, .int .u32 0, .bool false, .int .i64 0] 35) = u0 := hu
      rw [hu2]
      clear hu hu2
      go_upto_region 6 with (go_at_call 35; (with_reducible refine (KC.out _).mono ?_); rintro e v1 ⟨rfl, rfl⟩)
      clear e1
      go_upto_region 9 with (first
  | ((with_reducible refine wpList_load_blk (o := ⟨some 20, .load 25 (.tmp 2), _, _, _, none⟩) rfl _ _ rfl w.heap.size 25 x.cells _ ?_ ?_ Try.underlying25 rfl (clk_sz _) ?_); rfl; exact b3)
  | ((with_reducible refine wpList_store_abs (o := ⟨none, .store 25 (.tmp 6) (.tmp 20), _, _, _, none⟩) rfl _ _ _ rfl u0.heap.size 25 zK.cells x.cells ?_ ?_ ?_ ?_ ?_ ?_ ?_); rfl; rfl; exact (Blk.new _ _ _ _ rfl); exact clk_sz _; rfl; exact clk_one _; intro w1 b8 o8; replace b3 := (b3.alloc (.cells zK.cells.toArray 25)).only o8 n3; replace b6 := (b6.alloc (.cells zK.cells.toArray 25)).only o8 n6; replace lw := Below.only (lw.alloc nw (.cells zK.cells.toArray 25)) o8 nw; clear o8)
  | ((with_reducible refine wpList_set1 (o := ⟨none, .store 4 (.tmp 23) (.const (.bool false)), _, _, _, none⟩) rfl _ _ _ rfl rfl u0.heap.size (1 + k) 25 x.cells (.bool false) ?_ ?_ ?_ ?_ ?_ ?_ ?_); rfl; rfl; exact b8; exact b_sz; exact (show 1 + k < 13 by omega); rfl; intro w5 bq oq; clear b8; have b8 := bq; rw [set_o _ hk] at b8; clear bq; replace b3 := b3.only oq n3; replace b6 := b6.only oq n6; replace lw := Below.only lw oq nw; clear oq)
  | ((with_reducible refine wpList_set1 (o := ⟨none, .store 3 (.tmp 26) (.const (.int .i64 0)), _, _, _, none⟩) rfl _ _ _ rfl rfl u0.heap.size (5 + k) 25 ({ x with o := upd x.o k false } : Clk).cells (.int .i64 0) ?_ ?_ ?_ ?_ ?_ ?_ ?_); rfl; rfl; exact b8; exact i_sz; exact (show 5 + k < 13 by omega); rfl; intro w6 bq oq; clear b8; have b8 := bq; rw [set_r _ hk] at b8; clear bq; replace b3 := b3.only oq n3; replace b6 := b6.only oq n6; replace lw := Below.only lw oq nw; clear oq))
      replace b3 := b3.drew
      replace b6 := b6.drew
      replace b8 := b8.drew
      replace lw := lw.drew
      have e3 := b3.cell HRV.out
      refine wp_region_held_drew (S := fun w' => World.rangeAt w' u0.heap.size 0 ({ x with o := upd x.o k false, r := upd x.r k 0 } : Clk).cells ∧ w'.cell? ⟨w.heap.size, 5 + k, none⟩ = some (.int .i64 rv)) (by kernel_rfl) ⟨(show World.rangeAt _ u0.heap.size 0 ({ x with o := upd x.o k false, r := upd x.r k 0 } : Clk).cells from b8.range 0 13), e3⟩ (fun hHeld => ?_)
      refine wpAnyH_take (i := 0) (oi := ⟨some 27, .load 25 (.tmp 6), _, _, _, none⟩) (v := .agg ({ x with o := upd x.o k false, r := upd x.r k 0 } : Clk).cells.toArray) rfl (by kernel_rfl) (by kernel_rfl) (by kernel_rfl) (fun _ _ _ h => h) (yieldsIf_load_mid (by rfl) _ _ rfl _ _ rfl ({ x with o := upd x.o k false, r := upd x.r k 0 } : Clk).cells _ (fun w h => h.1) Try.underlying25 rfl (clk_sz _)) hHeld ?_
      simp only [Act.put, List.setIfInBounds_toArray, List.set_cons_zero, List.set_cons_succ]
      refine wpAnyH_take (i := 1) (oi := ⟨some 28, .move (.tmp 1), _, _, _, none⟩) (v := .int .i64 (k : Int)) rfl (by kernel_rfl) (by kernel_rfl) (by kernel_rfl) (fun _ _ _ h => h) (Or.inl ⟨by rfl, fun _ _ => rfl⟩) hHeld ?_
      simp only [Act.put, List.setIfInBounds_toArray, List.set_cons_zero, List.set_cons_succ]
      refine wpAnyH_take (i := 2) (oi := ⟨some 29, .fieldAddr 25 (.tmp 2) 2, _, _, _, none⟩) (v := .pointer (some ⟨w.heap.size, 5, none⟩)) rfl (by kernel_rfl) (by kernel_rfl) (by kernel_rfl) (fun _ _ _ h => h) (Or.inl ⟨by rfl, fun w _ => by go_simp⟩) hHeld ?_
      simp only [Act.put, List.setIfInBounds_toArray, List.set_cons_zero, List.set_cons_succ]
      refine wpAnyH_take (i := 3) (oi := ⟨some 30, .indexAddr 23 (.tmp 29) (.tmp 28), _, _, _, none⟩) (v := .pointer (some ⟨w.heap.size, 5 + k, none⟩)) rfl (by kernel_rfl) (by kernel_rfl) (by kernel_rfl) (fun _ _ _ h => h) (Or.inl ⟨by rfl, fun w _ => by go_simp⟩) hHeld ?_
      simp only [Act.put, List.setIfInBounds_toArray, List.set_cons_zero, List.set_cons_succ]
      refine wpAnyH_take (i := 4) (oi := ⟨some 31, .load 3 (.tmp 30), _, _, _, none⟩) (v := .int .i64 rv) rfl (by kernel_rfl) (by kernel_rfl) (by kernel_rfl) (fun _ _ _ h => h) (Or.inl ⟨by rfl, fun w hSw => by have e1 := hSw.2; clear hSw; go_simp⟩) hHeld ?_
      simp only [Act.put, List.setIfInBounds_toArray, List.set_cons_zero, List.set_cons_succ]
      refine wpAnyH_take (i := 5) (oi := ⟨some 32, .convert 3 31 (.tmp 31), _, _, _, none⟩) (v := .int .u32 z) rfl (by kernel_rfl) (by kernel_rfl) (by kernel_rfl) (fun _ _ _ h => h) (Or.inl ⟨by rfl, fun w _ => by go_simp⟩) hHeld ?_
      simp only [Act.put, List.setIfInBounds_toArray, List.set_cons_zero, List.set_cons_succ]
      refine wpAnyH_take (i := 6) (oi := ⟨some 33, .build 35 #[(0, .tmp 27), (1, .tmp 32)], _, _, _, none⟩) (v := .agg (gotC ({ x with o := upd x.o k false, r := upd x.r k 0 } : Clk) z false 0).toArray) rfl (by kernel_rfl) (by kernel_rfl) (by kernel_rfl) (fun _ _ _ h => h) (yieldsIf_build (by rfl) _ _ #[(0, .agg ({ x with o := upd x.o k false, r := upd x.r k 0 } : Clk).cells.toArray), (1, .int .u32 z)] _ rfl rfl (run_gv ({ x with o := upd x.o k false, r := upd x.r k 0 } : Clk) z)) hHeld ?_
      simp only [Act.put, List.setIfInBounds_toArray, List.set_cons_zero, List.set_cons_succ]
      refine wpAnyH_ready (rs := [7]) (by kernel_rfl) (by simp) (AllReadyH.cons (o := ⟨none, .store 35 (.tmp 4) (.tmp 33), _, _, _, none⟩) rfl (fun K' hK => ?_) (AllReadyH.nil))
      refine wp_store_blk 35 _ _ rfl (w.heap.size + 1) 35 (gotC zK 0 false 0) (gotC ({ x with o := upd x.o k false, r := upd x.r k 0 } : Clk) z false 0) rfl rfl b6 (got_sz _ _ _ _) rfl (got_one _ _ _ _) ?_
      intro w9 b9 o9
      replace b8 := b8.only o9 (Ne.symm n6)
      replace e3 := (b3.only o9 (by omega)).cell HRV.out
      refine hK.out _ _ ⟨(show World.rangeAt _ u0.heap.size 0 ({ x with o := upd x.o k false, r := upd x.r k 0 } : Clk).cells from b8.range 0 13), e3⟩ (fun hHeld => ?_)
      clear hK K'
      try simp only [Act.put]
      refine wpAnyH_done (by kernel_rfl) ?_ _
      clear hHeld
      go_wp2
      exact bodyPost_ret (got_ret Try.results16 _ _ (w.heap.size + 1) ({ x with o := upd x.o k false, r := upd x.r k 0 } : Clk) z false 0 rfl b9) rfl ⟨rfl, Below.only lw o9 (by omega)⟩
set_option maxRecDepth 100000 in
set_option maxHeartbeats 4000000 in
theorem rset_any (x : Clk) (c n v : Int) (w : World) (hv : 0 ≤ v ∧ v ≤ 4294967295) : Calls Try.prog 19 #[.agg x.cells.toArray, .int .i64 c, .int .i64 n, .int .u32 v] w fun e w' => e = .returned (.agg (gotC (x.setC c n v) 0 false (setE c n)).toArray) ∧ Later w w' := by
  have b3 := (Blk.new w 25 x.cells.toArray x.cells rfl).alloc (.cells (gotC zK 0 false 0).toArray 35)
  have b6 := Blk.new' (w.alloc (.cells x.cells.toArray 25)) (w.heap.size + 1) 35 (gotC zK 0 false 0).toArray (gotC zK 0 false 0) (by simp) rfl
  have lw := (later1 w (.cells x.cells.toArray 25)).alloc (by simp) (.cells (gotC zK 0 false 0).toArray 35)
  obtain ⟨u0, hu⟩ : ∃ u0, (w.alloc (.cells x.cells.toArray 25)).alloc (.cells (gotC zK 0 false 0).toArray 35) = u0 := ⟨_, rfl⟩
  rw [hu] at b3 b6 lw
  have n3 := Nat.ne_of_lt b3.lt
  have n6 := Nat.ne_of_lt b6.lt
  have nw := lw.size
  have KC := Lib.hid fun w' => is_any c w'
  cases hc : isC c with
  | false =>
    rw [hc] at KC
    have hE : setE c n = 1 := by unfold setE; rw [hc]; rfl
    have hX : x.setC c n v = x := if_neg (by rw [hE]; decide)
    rw [hE, hX]
    clear hE hX
    clear hc
    go_enter Try.func19, Try.ntmps19
    go_upto_region 1 with fail
    have hu2 : (w.alloc (.cells x.cells.toArray 25)).alloc (.cells #[.int .i64 0, .bool false, .bool false, .bool false, .bool false, .int .i64 0, .int .i64 0, .int .i64 0, .int .i64 0, .int .i64 0, .int .i64 0, .int .i64 0, .int .i64 0, .int .u32 0, .bool false, .int .i64 0] 35) = u0 := hu
    rw [hu2]
    clear hu hu2
    go_wp2_with (first
      | (go_at_call 35; (with_reducible refine (KC.out _).mono ?_); rintro e v1 ⟨rfl, rfl⟩)
      | ((with_reducible refine wpList_load_blk (o := ⟨some 23, .load 25 (.tmp 4), _, _, _, none⟩) rfl _ _ rfl w.heap.size 25 x.cells _ ?_ ?_ Try.underlying25 rfl (clk_sz _) ?_); rfl; exact b3)
      | ((with_reducible refine wpList_bld (o := ⟨some 24, .build 35 #[(0, .tmp 23), (3, .const (.int .i64 1))], _, _, _, none⟩) rfl _ #[(0, .tmp 23), (3, .const (.int .i64 1))] #[(0, .agg x.cells.toArray), (3, .int .i64 1)] (gotC x 0 false 1).toArray rfl ?_ (run_ge x 1 _) ?_); rfl)
      | ((with_reducible refine wpList_store_abs (o := ⟨none, .store 35 (.tmp 8) (.tmp 24), _, _, _, none⟩) rfl _ _ _ rfl (w.heap.size + 1) 35 (gotC zK 0 false 0) (gotC x 0 false 1) ?_ ?_ ?_ ?_ ?_ ?_ ?_); rfl; rfl; exact b6; exact got_sz _ _ _ _; rfl; exact got_one _ _ _ _; intro w9 b9 o9))
    exact bodyPost_ret (got_ret Try.results19 _ _ (w.heap.size + 1) x 0 false 1 rfl b9) rfl ⟨rfl, Below.only lw o9 (by omega)⟩
  | true =>
    rw [hc] at KC
    obtain ⟨k, rfl, hk⟩ := isC_open hc
    have hk4 : (k : Int) < 4 := by omega
    have hk0 : (0 : Int) ≤ k := by omega
    cases ht : isN n with
    | false =>
      have hE : setE (k : Int) n = 1 := by unfold setE; rw [hc, ht]; rfl
      have hX : x.setC (k : Int) n v = x := if_neg (by rw [hE]; decide)
      rw [hE, hX]
      clear hE hX
      have ht2 := of_decide_eq_false ht
      clear hc ht
      by_cases t0 : n < 0
      · have d0 : decide (n < 0) = true := decide_eq_true t0
        clear ht2
        go_enter Try.func19, Try.ntmps19
        go_upto_region 1 with fail
        have hu2 : (w.alloc (.cells x.cells.toArray 25)).alloc (.cells #[.int .i64 0, .bool false, .bool false, .bool false, .bool false, .int .i64 0, .int .i64 0, .int .i64 0, .int .i64 0, .int .i64 0, .int .i64 0, .int .i64 0, .int .i64 0, .int .u32 0, .bool false, .int .i64 0] 35) = u0 := hu
        rw [hu2]
        clear hu hu2
        go_wp2_with (first
          | (go_at_call 35; (with_reducible refine (KC.out _).mono ?_); rintro e v1 ⟨rfl, rfl⟩)
          | ((with_reducible refine wpList_load_blk (o := ⟨some 23, .load 25 (.tmp 4), _, _, _, none⟩) rfl _ _ rfl w.heap.size 25 x.cells _ ?_ ?_ Try.underlying25 rfl (clk_sz _) ?_); rfl; exact b3)
          | ((with_reducible refine wpList_bld (o := ⟨some 24, .build 35 #[(0, .tmp 23), (3, .const (.int .i64 1))], _, _, _, none⟩) rfl _ #[(0, .tmp 23), (3, .const (.int .i64 1))] #[(0, .agg x.cells.toArray), (3, .int .i64 1)] (gotC x 0 false 1).toArray rfl ?_ (run_ge x 1 _) ?_); rfl)
          | ((with_reducible refine wpList_store_abs (o := ⟨none, .store 35 (.tmp 8) (.tmp 24), _, _, _, none⟩) rfl _ _ _ rfl (w.heap.size + 1) 35 (gotC zK 0 false 0) (gotC x 0 false 1) ?_ ?_ ?_ ?_ ?_ ?_ ?_); rfl; rfl; exact b6; exact got_sz _ _ _ _; rfl; exact got_one _ _ _ _; intro w9 b9 o9))
        exact bodyPost_ret (got_ret Try.results19 _ _ (w.heap.size + 1) x 0 false 1 rfl b9) rfl ⟨rfl, Below.only lw o9 (by omega)⟩
      · have d0 : decide (n < 0) = false := decide_eq_false t0
        have d1 : decide (1099511627776 < n) = true := decide_eq_true (by omega)
        clear ht2
        go_enter Try.func19, Try.ntmps19
        go_upto_region 1 with fail
        have hu2 : (w.alloc (.cells x.cells.toArray 25)).alloc (.cells #[.int .i64 0, .bool false, .bool false, .bool false, .bool false, .int .i64 0, .int .i64 0, .int .i64 0, .int .i64 0, .int .i64 0, .int .i64 0, .int .i64 0, .int .i64 0, .int .u32 0, .bool false, .int .i64 0] 35) = u0 := hu
        rw [hu2]
        clear hu hu2
        go_wp2_with (first
          | (go_at_call 35; (with_reducible refine (KC.out _).mono ?_); rintro e v1 ⟨rfl, rfl⟩)
          | ((with_reducible refine wpList_load_blk (o := ⟨some 23, .load 25 (.tmp 4), _, _, _, none⟩) rfl _ _ rfl w.heap.size 25 x.cells _ ?_ ?_ Try.underlying25 rfl (clk_sz _) ?_); rfl; exact b3)
          | ((with_reducible refine wpList_bld (o := ⟨some 24, .build 35 #[(0, .tmp 23), (3, .const (.int .i64 1))], _, _, _, none⟩) rfl _ #[(0, .tmp 23), (3, .const (.int .i64 1))] #[(0, .agg x.cells.toArray), (3, .int .i64 1)] (gotC x 0 false 1).toArray rfl ?_ (run_ge x 1 _) ?_); rfl)
          | ((with_reducible refine wpList_store_abs (o := ⟨none, .store 35 (.tmp 8) (.tmp 24), _, _, _, none⟩) rfl _ _ _ rfl (w.heap.size + 1) 35 (gotC zK 0 false 0) (gotC x 0 false 1) ?_ ?_ ?_ ?_ ?_ ?_ ?_); rfl; rfl; exact b6; exact got_sz _ _ _ _; rfl; exact got_one _ _ _ _; intro w9 b9 o9))
        exact bodyPost_ret (got_ret Try.results19 _ _ (w.heap.size + 1) x 0 false 1 rfl b9) rfl ⟨rfl, Below.only lw o9 (by omega)⟩
    | true =>
      have ht2 := of_decide_eq_true ht
      have d0 : decide (n < 0) = false := decide_eq_false (by omega)
      have d1 : decide (1099511627776 < n) = false := decide_eq_false (by omega)
      have hE : setE (k : Int) n = 0 := by unfold setE; rw [hc, ht]; rfl
      have hw1 : IntKind.i64.wrap v = v := by rw [IntKind.wrap_i64]; omega
      have hw2 : IntKind.i64.wrap (n + v) = n + v := by rw [IntKind.wrap_i64]; omega
      have hw3 : IntKind.i64.wrap n = n := by rw [IntKind.wrap_i64]; omega
      by_cases hv0 : v = 0
      · subst hv0
        have HX := Lib.hid (show x.setC (k : Int) n 0 = ({ x with a := upd (upd x.a k n) k 0 } : Clk) from by unfold Clk.setC alarm; rw [if_pos hE, Int.toNat_natCast]; rw [if_pos rfl, upd_upd])
        rw [hE]
        clear hE hc ht hw1 hw2
        go_enter Try.func19, Try.ntmps19
        go_upto_region 1 with fail
        have hu2 : (w.alloc (.cells x.cells.toArray 25)).alloc (.cells #[.int .i64 0, .bool false, .bool false, .bool false, .bool false, .int .i64 0, .int .i64 0, .int .i64 0, .int .i64 0, .int .i64 0, .int .i64 0, .int .i64 0, .int .i64 0, .int .u32 0, .bool false, .int .i64 0] 35) = u0 := hu
        rw [hu2]
        clear hu hu2
        go_wp2_with (first
          | (go_at_call 35; (with_reducible refine (KC.out _).mono ?_); rintro e v1 ⟨rfl, rfl⟩)
          | ((with_reducible refine wpList_load_blk (o := ⟨some 25, .load 25 (.tmp 4), _, _, _, none⟩) rfl _ _ rfl w.heap.size 25 x.cells _ ?_ ?_ Try.underlying25 rfl (clk_sz _) ?_); rfl; exact b3)
          | ((with_reducible refine wpList_store_abs (o := ⟨none, .store 25 (.tmp 10) (.tmp 25), _, _, _, none⟩) rfl _ _ _ rfl u0.heap.size 25 zK.cells x.cells ?_ ?_ ?_ ?_ ?_ ?_ ?_); rfl; rfl; exact (Blk.new _ _ _ _ rfl); exact clk_sz _; rfl; exact clk_one _; intro w1 b8 o8; replace b3 := (b3.alloc (.cells zK.cells.toArray 25)).only o8 n3; replace b6 := (b6.alloc (.cells zK.cells.toArray 25)).only o8 n6; replace lw := Below.only (lw.alloc nw (.cells zK.cells.toArray 25)) o8 nw; clear o8)
          | ((with_reducible refine wpList_set1 (o := ⟨none, .store 3 (.tmp 32) (.tmp 30), _, _, _, none⟩) rfl _ _ _ rfl rfl u0.heap.size (9 + k) 25 x.cells (.int .i64 n) ?_ ?_ ?_ ?_ ?_ ?_ ?_); rfl; rfl; exact b8; exact i_sz; exact (show 9 + k < 13 by omega); rfl; intro w5 bq oq; clear b8; have b8 := bq; rw [set_a _ hk] at b8; clear bq; replace b3 := b3.only oq n3; replace b6 := b6.only oq n6; replace lw := Below.only lw oq nw; clear oq; have q5 := b8.cell (show _ = some (Value.int .i64 n) from (clk_a _ hk).trans (congrArg (fun z => some (Value.int .i64 z)) (upd_at _ _ _))))
          | ((with_reducible refine wpList_set1 (o := ⟨none, .store 3 (.tmp 45) (.const (.int .i64 0)), _, _, _, none⟩) rfl _ _ _ rfl rfl u0.heap.size (9 + k) 25 ({ x with a := upd x.a k n } : Clk).cells (.int .i64 0) ?_ ?_ ?_ ?_ ?_ ?_ ?_); rfl; rfl; exact b8; exact i_sz; exact (show 9 + k < 13 by omega); rfl; intro w6 bq oq; clear b8; have b8 := bq; rw [set_a _ hk] at b8; clear bq; replace b3 := b3.only oq n3; replace b6 := b6.only oq n6; replace lw := Below.only lw oq nw; clear oq; clear q5)
          | ((with_reducible refine wpList_load_blk (o := ⟨some 46, .load 25 (.tmp 10), _, _, _, none⟩) rfl _ _ rfl u0.heap.size 25 ({ x with a := upd (upd x.a k n) k 0 } : Clk).cells _ ?_ ?_ Try.underlying25 rfl (clk_sz _) ?_); rfl; exact b8)
          | ((with_reducible refine wpList_bld (o := ⟨some 47, .build 35 #[(0, .tmp 46)], _, _, _, none⟩) rfl _ #[(0, .tmp 46)] #[(0, .agg ({ x with a := upd (upd x.a k n) k 0 } : Clk).cells.toArray)] (gotC ({ x with a := upd (upd x.a k n) k 0 } : Clk) 0 false 0).toArray rfl ?_ (run_g0 ({ x with a := upd (upd x.a k n) k 0 } : Clk) _) ?_); rfl)
          | ((with_reducible refine wpList_store_abs (o := ⟨none, .store 35 (.tmp 8) (.tmp 47), _, _, _, none⟩) rfl _ _ _ rfl (w.heap.size + 1) 35 (gotC zK 0 false 0) (gotC ({ x with a := upd (upd x.a k n) k 0 } : Clk) 0 false 0) ?_ ?_ ?_ ?_ ?_ ?_ ?_); rfl; rfl; exact b6; exact got_sz _ _ _ _; rfl; exact got_one _ _ _ _; intro w9 b9 o9))
        exact bodyPost_ret (got_ret Try.results19 _ _ (w.heap.size + 1) ({ x with a := upd (upd x.a k n) k 0 } : Clk) 0 false 0 rfl b9) rfl ⟨by rw [HX.out], Below.only lw o9 (by omega)⟩
      · have hvne : (v == 0) = false := beq_false_of_ne hv0
        by_cases hs : n + v ≤ 1099511627776
        · have d4 : decide (1099511627776 < n + v) = false := decide_eq_false (by omega)
          have HX := Lib.hid (show x.setC (k : Int) n v = ({ x with a := upd x.a k (n + v) } : Clk) from by unfold Clk.setC alarm; rw [if_pos hE, Int.toNat_natCast]; rw [if_neg hv0, Int.min_eq_left hs])
          rw [hE]
          clear hE hc ht
          go_enter Try.func19, Try.ntmps19
          go_upto_region 1 with fail
          have hu2 : (w.alloc (.cells x.cells.toArray 25)).alloc (.cells #[.int .i64 0, .bool false, .bool false, .bool false, .bool false, .int .i64 0, .int .i64 0, .int .i64 0, .int .i64 0, .int .i64 0, .int .i64 0, .int .i64 0, .int .i64 0, .int .u32 0, .bool false, .int .i64 0] 35) = u0 := hu
          rw [hu2]
          clear hu hu2
          go_wp2_with (first
            | (go_at_call 35; (with_reducible refine (KC.out _).mono ?_); rintro e v1 ⟨rfl, rfl⟩)
            | ((with_reducible refine wpList_load_blk (o := ⟨some 25, .load 25 (.tmp 4), _, _, _, none⟩) rfl _ _ rfl w.heap.size 25 x.cells _ ?_ ?_ Try.underlying25 rfl (clk_sz _) ?_); rfl; exact b3)
            | ((with_reducible refine wpList_store_abs (o := ⟨none, .store 25 (.tmp 10) (.tmp 25), _, _, _, none⟩) rfl _ _ _ rfl u0.heap.size 25 zK.cells x.cells ?_ ?_ ?_ ?_ ?_ ?_ ?_); rfl; rfl; exact (Blk.new _ _ _ _ rfl); exact clk_sz _; rfl; exact clk_one _; intro w1 b8 o8; replace b3 := (b3.alloc (.cells zK.cells.toArray 25)).only o8 n3; replace b6 := (b6.alloc (.cells zK.cells.toArray 25)).only o8 n6; replace lw := Below.only (lw.alloc nw (.cells zK.cells.toArray 25)) o8 nw; clear o8)
            | ((with_reducible refine wpList_set1 (o := ⟨none, .store 3 (.tmp 32) (.tmp 30), _, _, _, none⟩) rfl _ _ _ rfl rfl u0.heap.size (9 + k) 25 x.cells (.int .i64 (n + v)) ?_ ?_ ?_ ?_ ?_ ?_ ?_); rfl; rfl; exact b8; exact i_sz; exact (show 9 + k < 13 by omega); rfl; intro w5 bq oq; clear b8; have b8 := bq; rw [set_a _ hk] at b8; clear bq; replace b3 := b3.only oq n3; replace b6 := b6.only oq n6; replace lw := Below.only lw oq nw; clear oq; have q5 := b8.cell (show _ = some (Value.int .i64 (n + v)) from (clk_a _ hk).trans (congrArg (fun z => some (Value.int .i64 z)) (upd_at _ _ _))))
            | ((with_reducible refine wpList_load_blk (o := ⟨some 46, .load 25 (.tmp 10), _, _, _, none⟩) rfl _ _ rfl u0.heap.size 25 ({ x with a := upd x.a k (n + v) } : Clk).cells _ ?_ ?_ Try.underlying25 rfl (clk_sz _) ?_); rfl; exact b8)
            | ((with_reducible refine wpList_bld (o := ⟨some 47, .build 35 #[(0, .tmp 46)], _, _, _, none⟩) rfl _ #[(0, .tmp 46)] #[(0, .agg ({ x with a := upd x.a k (n + v) } : Clk).cells.toArray)] (gotC ({ x with a := upd x.a k (n + v) } : Clk) 0 false 0).toArray rfl ?_ (run_g0 ({ x with a := upd x.a k (n + v) } : Clk) _) ?_); rfl)
            | ((with_reducible refine wpList_store_abs (o := ⟨none, .store 35 (.tmp 8) (.tmp 47), _, _, _, none⟩) rfl _ _ _ rfl (w.heap.size + 1) 35 (gotC zK 0 false 0) (gotC ({ x with a := upd x.a k (n + v) } : Clk) 0 false 0) ?_ ?_ ?_ ?_ ?_ ?_ ?_); rfl; rfl; exact b6; exact got_sz _ _ _ _; rfl; exact got_one _ _ _ _; intro w9 b9 o9))
          exact bodyPost_ret (got_ret Try.results19 _ _ (w.heap.size + 1) ({ x with a := upd x.a k (n + v) } : Clk) 0 false 0 rfl b9) rfl ⟨by rw [HX.out], Below.only lw o9 (by omega)⟩
        · have d4 : decide (1099511627776 < n + v) = true := decide_eq_true (by omega)
          have HX := Lib.hid (show x.setC (k : Int) n v = ({ x with a := upd (upd x.a k (n + v)) k 1099511627776 } : Clk) from by unfold Clk.setC alarm; rw [if_pos hE, Int.toNat_natCast]; rw [if_neg hv0, upd_upd, Int.min_eq_right (by omega)])
          rw [hE]
          clear hE hc ht
          go_enter Try.func19, Try.ntmps19
          go_upto_region 1 with fail
          have hu2 : (w.alloc (.cells x.cells.toArray 25)).alloc (.cells #[.int .i64 0, .bool false, .bool false, .bool false, .bool false, .int .i64 0, .int .i64 0, .int .i64 0, .int .i64 0, .int .i64 0, .int .i64 0, .int .i64 0, .int .i64 0, .int .u32 0, .bool false, .int .i64 0] 35) = u0 := hu
          rw [hu2]
          clear hu hu2
          go_wp2_with (first
            | (go_at_call 35; (with_reducible refine (KC.out _).mono ?_); rintro e v1 ⟨rfl, rfl⟩)
            | ((with_reducible refine wpList_load_blk (o := ⟨some 25, .load 25 (.tmp 4), _, _, _, none⟩) rfl _ _ rfl w.heap.size 25 x.cells _ ?_ ?_ Try.underlying25 rfl (clk_sz _) ?_); rfl; exact b3)
            | ((with_reducible refine wpList_store_abs (o := ⟨none, .store 25 (.tmp 10) (.tmp 25), _, _, _, none⟩) rfl _ _ _ rfl u0.heap.size 25 zK.cells x.cells ?_ ?_ ?_ ?_ ?_ ?_ ?_); rfl; rfl; exact (Blk.new _ _ _ _ rfl); exact clk_sz _; rfl; exact clk_one _; intro w1 b8 o8; replace b3 := (b3.alloc (.cells zK.cells.toArray 25)).only o8 n3; replace b6 := (b6.alloc (.cells zK.cells.toArray 25)).only o8 n6; replace lw := Below.only (lw.alloc nw (.cells zK.cells.toArray 25)) o8 nw; clear o8)
            | ((with_reducible refine wpList_set1 (o := ⟨none, .store 3 (.tmp 32) (.tmp 30), _, _, _, none⟩) rfl _ _ _ rfl rfl u0.heap.size (9 + k) 25 x.cells (.int .i64 (n + v)) ?_ ?_ ?_ ?_ ?_ ?_ ?_); rfl; rfl; exact b8; exact i_sz; exact (show 9 + k < 13 by omega); rfl; intro w5 bq oq; clear b8; have b8 := bq; rw [set_a _ hk] at b8; clear bq; replace b3 := b3.only oq n3; replace b6 := b6.only oq n6; replace lw := Below.only lw oq nw; clear oq; have q5 := b8.cell (show _ = some (Value.int .i64 (n + v)) from (clk_a _ hk).trans (congrArg (fun z => some (Value.int .i64 z)) (upd_at _ _ _))))
            | ((with_reducible refine wpList_set1 (o := ⟨none, .store 3 (.tmp 40) (.const (.int .i64 1099511627776)), _, _, _, none⟩) rfl _ _ _ rfl rfl u0.heap.size (9 + k) 25 ({ x with a := upd x.a k (n + v) } : Clk).cells (.int .i64 1099511627776) ?_ ?_ ?_ ?_ ?_ ?_ ?_); rfl; rfl; exact b8; exact i_sz; exact (show 9 + k < 13 by omega); rfl; intro w6 bq oq; clear b8; have b8 := bq; rw [set_a _ hk] at b8; clear bq; replace b3 := b3.only oq n3; replace b6 := b6.only oq n6; replace lw := Below.only lw oq nw; clear oq; clear q5)
            | ((with_reducible refine wpList_load_blk (o := ⟨some 46, .load 25 (.tmp 10), _, _, _, none⟩) rfl _ _ rfl u0.heap.size 25 ({ x with a := upd (upd x.a k (n + v)) k 1099511627776 } : Clk).cells _ ?_ ?_ Try.underlying25 rfl (clk_sz _) ?_); rfl; exact b8)
            | ((with_reducible refine wpList_bld (o := ⟨some 47, .build 35 #[(0, .tmp 46)], _, _, _, none⟩) rfl _ #[(0, .tmp 46)] #[(0, .agg ({ x with a := upd (upd x.a k (n + v)) k 1099511627776 } : Clk).cells.toArray)] (gotC ({ x with a := upd (upd x.a k (n + v)) k 1099511627776 } : Clk) 0 false 0).toArray rfl ?_ (run_g0 ({ x with a := upd (upd x.a k (n + v)) k 1099511627776 } : Clk) _) ?_); rfl)
            | ((with_reducible refine wpList_store_abs (o := ⟨none, .store 35 (.tmp 8) (.tmp 47), _, _, _, none⟩) rfl _ _ _ rfl (w.heap.size + 1) 35 (gotC zK 0 false 0) (gotC ({ x with a := upd (upd x.a k (n + v)) k 1099511627776 } : Clk) 0 false 0) ?_ ?_ ?_ ?_ ?_ ?_ ?_); rfl; rfl; exact b6; exact got_sz _ _ _ _; rfl; exact got_one _ _ _ _; intro w9 b9 o9))
          exact bodyPost_ret (got_ret Try.results19 _ _ (w.heap.size + 1) ({ x with a := upd (upd x.a k (n + v)) k 1099511627776 } : Clk) 0 false 0 rfl b9) rfl ⟨by rw [HX.out], Below.only lw o9 (by omega)⟩
set_option maxRecDepth 100000 in
set_option maxHeartbeats 4000000 in
theorem rfire_any (x : Clk) (c n : Int) (w : World) : Calls Try.prog 20 #[.agg x.cells.toArray, .int .i64 c, .int .i64 n] w fun e w' => e = .returned (.agg (gotC (x.fireC c n) 0 (x.fire c n) 0).toArray) ∧ Later w w' := by
  have b3 := (Blk.new w 25 x.cells.toArray x.cells rfl).alloc (.cells (gotC zK 0 false 0).toArray 35)
  have b6 := Blk.new' (w.alloc (.cells x.cells.toArray 25)) (w.heap.size + 1) 35 (gotC zK 0 false 0).toArray (gotC zK 0 false 0) (by simp) rfl
  have lw := (later1 w (.cells x.cells.toArray 25)).alloc (by simp) (.cells (gotC zK 0 false 0).toArray 35)
  obtain ⟨u0, hu⟩ : ∃ u0, (w.alloc (.cells x.cells.toArray 25)).alloc (.cells (gotC zK 0 false 0).toArray 35) = u0 := ⟨_, rfl⟩
  rw [hu] at b3 b6 lw
  have n3 := Nat.ne_of_lt b3.lt
  have n6 := Nat.ne_of_lt b6.lt
  have nw := lw.size
  clear n3 n6 nw
  have KX := Lib.hid fun w' => rnext_any x c w'
  by_cases h0 : x.next c = 0 ∨ n < x.next c
  · have hf : x.fire c n = false := by unfold Clk.fire; rcases h0 with h | h <;> simp [h]
    rw [show x.fireC c n = x from by unfold Clk.fireC; rw [hf]; rfl, hf]
    obtain ⟨d, hd⟩ : ∃ d, d = x.next c := ⟨_, rfl⟩
    rw [← hd] at KX h0
    clear hf hd
    by_cases h1 : d = 0
    · subst h1
      clear h0
      go_enter Try.func20, Try.ntmps20
      go_upto_region 1 with fail
      have hu2 : (w.alloc (.cells x.cells.toArray 25)).alloc (.cells #[.int .i64 0, .bool false, .bool false, .bool false, .bool false, .int .i64 0, .int .i64 0, .int .i64 0, .int .i64 0, .int .i64 0, .int .i64 0, .int .i64 0, .int .i64 0, .int .u32 0, .bool false, .int .i64 0] 35) = u0 := hu
      rw [hu2]
      clear hu hu2
      go_wp2_with (first
        | ((with_reducible refine wpList_load_blk (o := ⟨some 9, .load 25 (.tmp 3), _, _, _, none⟩) rfl _ _ rfl w.heap.size 25 x.cells _ ?_ ?_ Try.underlying25 rfl (clk_sz _) ?_); rfl; exact b3)
        | (go_at_call 22; (with_reducible refine (KX.out _).mono ?_); rintro e v4 ⟨rfl, l1⟩; replace b3 := b3.keep l1; replace b6 := b6.keep l1; replace lw := Later.trans_ lw l1; have n3 := Nat.ne_of_lt b3.lt; have n6 := Nat.ne_of_lt b6.lt; have nw := lw.size)
        | ((with_reducible refine wpList_load_blk (o := ⟨some 19, .load 25 (.tmp 3), _, _, _, none⟩) rfl _ _ rfl w.heap.size 25 x.cells _ ?_ ?_ Try.underlying25 rfl (clk_sz _) ?_); rfl; exact b3)
        | ((with_reducible refine wpList_bld (o := ⟨some 20, .build 35 #[(0, .tmp 19)], _, _, _, none⟩) rfl _ #[(0, .tmp 19)] #[(0, .agg x.cells.toArray)] (gotC x 0 false 0).toArray rfl ?_ (run_g0 x _) ?_); rfl)
        | ((with_reducible refine wpList_store_abs (o := ⟨none, .store 35 (.tmp 6) (.tmp 20), _, _, _, none⟩) rfl _ _ _ rfl (w.heap.size + 1) 35 (gotC zK 0 false 0) (gotC x 0 false 0) ?_ ?_ ?_ ?_ ?_ ?_ ?_); rfl; rfl; exact b6; exact got_sz _ _ _ _; rfl; exact got_one _ _ _ _; intro w9 b9 o9))
      exact bodyPost_ret (got_ret Try.results20 _ _ (w.heap.size + 1) x 0 false 0 rfl b9) rfl ⟨rfl, Below.only lw o9 (by omega)⟩
    · have d0 : (d == 0) = false := beq_false_of_ne h1
      have d1 : decide (n < d) = true := decide_eq_true (by rcases h0 with h | h; exact absurd h h1; exact h)
      clear h0
      go_enter Try.func20, Try.ntmps20
      go_upto_region 1 with fail
      have hu2 : (w.alloc (.cells x.cells.toArray 25)).alloc (.cells #[.int .i64 0, .bool false, .bool false, .bool false, .bool false, .int .i64 0, .int .i64 0, .int .i64 0, .int .i64 0, .int .i64 0, .int .i64 0, .int .i64 0, .int .i64 0, .int .u32 0, .bool false, .int .i64 0] 35) = u0 := hu
      rw [hu2]
      clear hu hu2
      go_wp2_with (first
        | ((with_reducible refine wpList_load_blk (o := ⟨some 9, .load 25 (.tmp 3), _, _, _, none⟩) rfl _ _ rfl w.heap.size 25 x.cells _ ?_ ?_ Try.underlying25 rfl (clk_sz _) ?_); rfl; exact b3)
        | (go_at_call 22; (with_reducible refine (KX.out _).mono ?_); rintro e v4 ⟨rfl, l1⟩; replace b3 := b3.keep l1; replace b6 := b6.keep l1; replace lw := Later.trans_ lw l1; have n3 := Nat.ne_of_lt b3.lt; have n6 := Nat.ne_of_lt b6.lt; have nw := lw.size)
        | ((with_reducible refine wpList_load_blk (o := ⟨some 19, .load 25 (.tmp 3), _, _, _, none⟩) rfl _ _ rfl w.heap.size 25 x.cells _ ?_ ?_ Try.underlying25 rfl (clk_sz _) ?_); rfl; exact b3)
        | ((with_reducible refine wpList_bld (o := ⟨some 20, .build 35 #[(0, .tmp 19)], _, _, _, none⟩) rfl _ #[(0, .tmp 19)] #[(0, .agg x.cells.toArray)] (gotC x 0 false 0).toArray rfl ?_ (run_g0 x _) ?_); rfl)
        | ((with_reducible refine wpList_store_abs (o := ⟨none, .store 35 (.tmp 6) (.tmp 20), _, _, _, none⟩) rfl _ _ _ rfl (w.heap.size + 1) 35 (gotC zK 0 false 0) (gotC x 0 false 0) ?_ ?_ ?_ ?_ ?_ ?_ ?_); rfl; rfl; exact b6; exact got_sz _ _ _ _; rfl; exact got_one _ _ _ _; intro w9 b9 o9))
      exact bodyPost_ret (got_ret Try.results20 _ _ (w.heap.size + 1) x 0 false 0 rfl b9) rfl ⟨rfl, Below.only lw o9 (by omega)⟩
  · have h1 : x.next c ≠ 0 := fun h => h0 (Or.inl h)
    have h2 : ¬ n < x.next c := fun h => h0 (Or.inr h)
    have hc : isC c = true := by
      cases hc : isC c with
      | true => rfl
      | false => exact absurd (show x.next c = 0 from by unfold Clk.next; rw [hc]; rfl) h1
    obtain ⟨k, rfl, hk⟩ := isC_open hc
    have hf : x.fire (k : Int) n = true := by unfold Clk.fire; simp [h1, h2]
    rw [show x.fireC (k : Int) n = ({ x with a := upd x.a k 0 } : Clk) from by unfold Clk.fireC; rw [hf, if_pos rfl, Int.toNat_natCast], hf]
    have hk4 : (k : Int) < 4 := by omega
    have hk0 : (0 : Int) ≤ k := by omega
    obtain ⟨d, hd⟩ : ∃ d, d = x.next (k : Int) := ⟨_, rfl⟩
    rw [← hd] at KX h1 h2
    have d0 : (d == 0) = false := beq_false_of_ne h1
    have d1 : decide (n < d) = false := decide_eq_false h2
    clear h0 hc hf hd
    go_enter Try.func20, Try.ntmps20
    go_upto_region 1 with fail
    have hu2 : (w.alloc (.cells x.cells.toArray 25)).alloc (.cells #[.int .i64 0, .bool false, .bool false, .bool false, .bool false, .int .i64 0, .int .i64 0, .int .i64 0, .int .i64 0, .int .i64 0, .int .i64 0, .int .i64 0, .int .i64 0, .int .u32 0, .bool false, .int .i64 0] 35) = u0 := hu
    rw [hu2]
    clear hu hu2
    go_wp2_with (first
      | ((with_reducible refine wpList_load_blk (o := ⟨some 9, .load 25 (.tmp 3), _, _, _, none⟩) rfl _ _ rfl w.heap.size 25 x.cells _ ?_ ?_ Try.underlying25 rfl (clk_sz _) ?_); rfl; exact b3)
      | (go_at_call 22; (with_reducible refine (KX.out _).mono ?_); rintro e v4 ⟨rfl, l1⟩; replace b3 := b3.keep l1; replace b6 := b6.keep l1; replace lw := Later.trans_ lw l1; have n3 := Nat.ne_of_lt b3.lt; have n6 := Nat.ne_of_lt b6.lt; have nw := lw.size)
      | ((with_reducible refine wpList_load_blk (o := ⟨some 21, .load 25 (.tmp 3), _, _, _, none⟩) rfl _ _ rfl w.heap.size 25 x.cells _ ?_ ?_ Try.underlying25 rfl (clk_sz _) ?_); rfl; exact b3)
      | ((with_reducible refine wpList_store_abs (o := ⟨none, .store 25 (.tmp 8) (.tmp 21), _, _, _, none⟩) rfl _ _ _ rfl v4.heap.size 25 zK.cells x.cells ?_ ?_ ?_ ?_ ?_ ?_ ?_); rfl; rfl; exact (Blk.new _ _ _ _ rfl); exact clk_sz _; rfl; exact clk_one _; intro w1 b8 o8; replace b3 := (b3.alloc (.cells zK.cells.toArray 25)).only o8 n3; replace b6 := (b6.alloc (.cells zK.cells.toArray 25)).only o8 n6; replace lw := Below.only (lw.alloc nw (.cells zK.cells.toArray 25)) o8 nw; clear o8)
      | ((with_reducible refine wpList_set1 (o := ⟨none, .store 3 (.tmp 24) (.const (.int .i64 0)), _, _, _, none⟩) rfl _ _ _ rfl rfl v4.heap.size (9 + k) 25 x.cells (.int .i64 0) ?_ ?_ ?_ ?_ ?_ ?_ ?_); rfl; rfl; exact b8; exact i_sz; exact (show 9 + k < 13 by omega); rfl; intro w5 bq oq; clear b8; have b8 := bq; rw [set_a _ hk] at b8; clear bq; replace b3 := b3.only oq n3; replace b6 := b6.only oq n6; replace lw := Below.only lw oq nw; clear oq)
      | ((with_reducible refine wpList_load_blk (o := ⟨some 25, .load 25 (.tmp 8), _, _, _, none⟩) rfl _ _ rfl v4.heap.size 25 ({ x with a := upd x.a k 0 } : Clk).cells _ ?_ ?_ Try.underlying25 rfl (clk_sz _) ?_); rfl; exact b8)
      | ((with_reducible refine wpList_bld (o := ⟨some 26, .build 35 #[(0, .tmp 25), (2, .const (.bool true))], _, _, _, none⟩) rfl _ #[(0, .tmp 25), (2, .const (.bool true))] #[(0, .agg ({ x with a := upd x.a k 0 } : Clk).cells.toArray), (2, .bool true)] (gotC ({ x with a := upd x.a k 0 } : Clk) 0 true 0).toArray rfl ?_ (run_gt ({ x with a := upd x.a k 0 } : Clk) _) ?_); rfl)
      | ((with_reducible refine wpList_store_abs (o := ⟨none, .store 35 (.tmp 6) (.tmp 26), _, _, _, none⟩) rfl _ _ _ rfl (w.heap.size + 1) 35 (gotC zK 0 false 0) (gotC ({ x with a := upd x.a k 0 } : Clk) 0 true 0) ?_ ?_ ?_ ?_ ?_ ?_ ?_); rfl; rfl; exact b6; exact got_sz _ _ _ _; rfl; exact got_one _ _ _ _; intro w9 b9 o9))
    exact bodyPost_ret (got_ret Try.results20 _ _ (w.heap.size + 1) ({ x with a := upd x.a k 0 } : Clk) 0 true 0 rfl b9) rfl ⟨rfl, Below.only lw o9 (by omega)⟩
end Go.Proofs.Ytdohocbpjpnmeaa
