/-
  THE STATEMENT ClockRingsOnce: an alarm fires exactly once, after as many steps as were said, and all else is as before; for every clock, processor, count and alarm.
-/
import Derived.Test.YtdohocbpjpnmeaaCloZ4
import Derived.Deep.RegionHeld
namespace Go.Proofs.Ytdohocbpjpnmeaa
open Go.RowKit Go.ChangeShapes Go.WideShapes Go.ChangeAt

/-- The clock before step j. -/
def atJ (x : Clk) (k : Nat) (n v : Int) (j : Nat) : Clk := if v ≠ 0 ∧ (j : Int) ≤ v then x.setC (k : Int) n v else { x with a := upd x.a k 0 }
def rung (v : Int) (j : Nat) : Int := if v ≠ 0 ∧ v < (j : Int) then 1 else 0
theorem next_0 (x : Clk) {k : Nat} : ({ x with a := upd x.a k 0 } : Clk).next (k : Int) = 0 := by
  unfold Clk.next
  split
  · rw [Int.toNat_natCast]; exact upd_at _ _ _
  · rfl
theorem atJ_step {x : Clk} {k : Nat} {n v : Int} {j : Nat} (hk : k < 4) (hn : 0 ≤ n ∧ n ≤ 1099511626776) (hv : 0 ≤ v ∧ v ≤ 300) (hj : 1 ≤ j) (hj4 : j ≤ 400) :
    (atJ x k n v j).fireC (k : Int) (n + j) = atJ x k n v (j + 1) ∧ (atJ x k n v j).fire (k : Int) (n + j) = decide ((j : Int) = v) := by
  unfold atJ
  by_cases h : v ≠ 0 ∧ (j : Int) ≤ v
  · rw [if_pos h]
    have hx : (x.setC (k : Int) n v).next (k : Int) = n + v := by rw [set_next x hk ⟨by omega, by omega⟩, alarm_at h.1 (by omega)]
    by_cases e : (j : Int) = v
    · have hf := fire_yes (x := x.setC (k : Int) n v) (c := (k : Int)) (n := n + j) (by rw [hx]; omega)
      rw [hf, if_neg (by omega)]
      refine ⟨?_, by simp [e]⟩
      unfold Clk.fireC
      rw [hf, if_pos rfl, Int.toNat_natCast]
      unfold Clk.setC
      rw [if_pos (setE_0 hk ⟨by omega, by omega⟩), Int.toNat_natCast]
      show (⟨_, _, _, upd (upd x.a k _) k 0⟩ : Clk) = _
      rw [upd_upd]
    · have hf := fire_no (x := x.setC (k : Int) n v) (c := (k : Int)) (n := n + j) (by rw [hx]; right; omega)
      rw [hf.1, hf.2, if_pos (by refine ⟨h.1, ?_⟩; have := h.2; push_cast; omega)]
      exact ⟨rfl, by simp [e]⟩
  · rw [if_neg h]
    have hf := fire_no (x := ({ x with a := upd x.a k 0 } : Clk)) (c := (k : Int)) (n := n + j) (Or.inl (next_0 x))
    rw [hf.1, hf.2, if_neg (by intro h2; apply h; refine ⟨h2.1, ?_⟩; have := h2.2; push_cast at this; omega)]
    refine ⟨rfl, ?_⟩
    have : ¬ (j : Int) = v := by intro e; apply h; omega
    simp [this]
theorem rung_step {v : Int} {j : Nat} (hj : 1 ≤ j) : rung v (j + 1) = if (j : Int) = v then rung v j + 1 else rung v j := by
  unfold rung
  by_cases e : (j : Int) = v
  · rw [if_pos e, if_pos (by push_cast; omega), if_neg (by omega)]; rfl
  · rw [if_neg e]
    by_cases h : v ≠ 0 ∧ v < (j : Int)
    · rw [if_pos h, if_pos (by push_cast; omega)]
    · rw [if_neg h, if_neg (by push_cast; omega)]
theorem rung_small (v : Int) (j : Nat) : 0 ≤ rung v j ∧ rung v j ≤ 1 := by unfold rung; split <;> omega
set_option maxRecDepth 100000 in
set_option maxHeartbeats 8000000 in
theorem once_all (x : Clk) (cp n v : Int) (w : World) (hcp : 0 ≤ cp ∧ cp ≤ 255) (h1 : 0 ≤ v ∧ v ≤ 65535) : Calls Try.prog 8 #[.agg x.cells.toArray, .int .u8 cp, .int .i64 n, .int .u16 v] w fun e w' => e = .returned (.bool true) ∧ Later w w' := by
  have KS := Lib.hid fun w' => sanity_any w'
  have b3 := Blk.new w 25 x.cells.toArray x.cells rfl
  have lw := later1 w (.cells x.cells.toArray 25)
  obtain ⟨u0, hu⟩ : ∃ u0, w.alloc (.cells x.cells.toArray 25) = u0 := ⟨_, rfl⟩
  rw [hu] at b3 lw
  have H3 := Lib.hid (show w.heap.size < u0.heap.size from b3.lt)
  obtain ⟨b, hb⟩ := ok_dec x
  have KR := Lib.hid fun w' => rvalid_any x b w' hb
  clear hb
  cases b with
  | false =>
    clear hcp h1
    go_enter Try.func8, Try.ntmps8
    go_upto_region 1 with fail
    clear hu
    go_wp2_with (first
      | ((with_reducible refine wpList_load_blk (o := ⟨some 18, .load 25 (.tmp 4), _, _, _, none⟩) rfl _ _ rfl w.heap.size 25 x.cells _ ?_ ?_ Try.underlying25 rfl (clk_sz _) ?_); rfl; exact b3)
      | (go_at_call 10; (with_reducible refine (KR.out _).mono ?_); rintro e w1 ⟨rfl, l1⟩; replace b3 := b3.keep l1; replace lw := Later.trans_ lw l1)
      | (go_at_call 12; (with_reducible refine (KS.out _).mono ?_); rintro e w3 ⟨rfl, l1⟩; replace b3 := b3.keep l1; replace lw := Later.trans_ lw l1))
    go_ret
    exact ⟨rfl, lw⟩
  | true =>
    by_cases n0 : n < 0
    · have d0 : decide (n < 0) = true := decide_eq_true n0
      clear hcp h1 n0
      go_enter Try.func8, Try.ntmps8
      go_upto_region 1 with fail
      clear hu
      go_wp2_with (first
        | ((with_reducible refine wpList_load_blk (o := ⟨some 18, .load 25 (.tmp 4), _, _, _, none⟩) rfl _ _ rfl w.heap.size 25 x.cells _ ?_ ?_ Try.underlying25 rfl (clk_sz _) ?_); rfl; exact b3)
        | (go_at_call 10; (with_reducible refine (KR.out _).mono ?_); rintro e w1 ⟨rfl, l1⟩; replace b3 := b3.keep l1; replace lw := Later.trans_ lw l1)
        | (go_at_call 12; (with_reducible refine (KS.out _).mono ?_); rintro e w3 ⟨rfl, l1⟩; replace b3 := b3.keep l1; replace lw := Later.trans_ lw l1))
      go_ret
      exact ⟨rfl, lw⟩
    have d0 : decide (n < 0) = false := decide_eq_false n0
    by_cases n1 : 1099511626776 < n
    · have d1 : decide (1099511626776 < n) = true := decide_eq_true n1
      clear hcp h1 n0 n1
      go_enter Try.func8, Try.ntmps8
      go_upto_region 1 with fail
      clear hu
      go_wp2_with (first
        | ((with_reducible refine wpList_load_blk (o := ⟨some 18, .load 25 (.tmp 4), _, _, _, none⟩) rfl _ _ rfl w.heap.size 25 x.cells _ ?_ ?_ Try.underlying25 rfl (clk_sz _) ?_); rfl; exact b3)
        | (go_at_call 10; (with_reducible refine (KR.out _).mono ?_); rintro e w1 ⟨rfl, l1⟩; replace b3 := b3.keep l1; replace lw := Later.trans_ lw l1)
        | (go_at_call 12; (with_reducible refine (KS.out _).mono ?_); rintro e w3 ⟨rfl, l1⟩; replace b3 := b3.keep l1; replace lw := Later.trans_ lw l1))
      go_ret
      exact ⟨rfl, lw⟩
    have d1 : decide (1099511626776 < n) = false := decide_eq_false n1
    by_cases v3 : 300 < v
    · have d2 : decide (300 < v) = true := decide_eq_true v3
      clear hcp h1 n0 n1 v3
      go_enter Try.func8, Try.ntmps8
      go_upto_region 1 with fail
      clear hu
      go_wp2_with (first
        | ((with_reducible refine wpList_load_blk (o := ⟨some 18, .load 25 (.tmp 4), _, _, _, none⟩) rfl _ _ rfl w.heap.size 25 x.cells _ ?_ ?_ Try.underlying25 rfl (clk_sz _) ?_); rfl; exact b3)
        | (go_at_call 10; (with_reducible refine (KR.out _).mono ?_); rintro e w1 ⟨rfl, l1⟩; replace b3 := b3.keep l1; replace lw := Later.trans_ lw l1)
        | (go_at_call 12; (with_reducible refine (KS.out _).mono ?_); rintro e w3 ⟨rfl, l1⟩; replace b3 := b3.keep l1; replace lw := Later.trans_ lw l1))
      go_ret
      exact ⟨rfl, lw⟩
    have d2 : decide (300 < v) = false := decide_eq_false v3
    obtain ⟨k, hk⟩ : ∃ k : Nat, k = (cp % 4).toNat := ⟨_, rfl⟩
    have hk4 : k < 4 := by omega
    have m1 : cp.tmod 4 = (k : Int) := by rw [Int.tmod_eq_emod_of_nonneg hcp.1]; omega
    have m2 : IntKind.u8.wrap (k : Int) = (k : Int) := by rw [IntKind.wrap_u8]; omega
    have m3 : (k : Int) % 256 = (k : Int) := by omega
    have m4 : IntKind.i64.wrap (k : Int) = (k : Int) := by rw [IntKind.wrap_i64]; omega
    have w1' : IntKind.u32.wrap v = v := by rw [IntKind.wrap_u32]; omega
    have w2' : v % 4294967296 = v := by omega
    have w3' : IntKind.i64.wrap v = v := by rw [IntKind.wrap_i64]; omega
    have HN := Lib.hid (show 0 ≤ n ∧ n ≤ 1099511626776 by omega)
    have HV := Lib.hid (show 0 ≤ v ∧ v ≤ 300 by omega)
    have K1 := Lib.hid fun w' => set_any x (k : Int) n v w' ⟨by omega, by omega⟩
    rw [setE_0 (n := n) hk4 ⟨by omega, by omega⟩] at K1
    obtain ⟨d, hd⟩ : ∃ d, d = x.setC (k : Int) n v := ⟨_, rfl⟩
    rw [← hd] at K1
    have hd1 : d = atJ x k n v 1 := by
      rw [hd]
      unfold atJ
      split
      · rfl
      · rename_i h
        have hv0 : v = 0 := by omega
        unfold Clk.setC
        rw [if_pos (setE_0 hk4 ⟨by omega, by omega⟩), Int.toNat_natCast, hv0]
        rfl
    have HD := Lib.hid hd1
    have hr1 := Lib.hid (show (0 : Int) = rung v 1 from by unfold rung; rw [if_neg (by omega)])
    clear hk hd hd1 hcp h1 n0 n1 v3 d0 d1 d2
    have d0 : decide (n < 0) = false := decide_eq_false (by have := HN.out; omega)
    have d1 : decide (1099511626776 < n) = false := decide_eq_false (by have := HN.out; omega)
    have d2 : decide (300 < v) = false := decide_eq_false (by have := HV.out; omega)
    go_enter Try.func8, Try.ntmps8
    go_upto_region 1 with fail
    clear hu
    go_upto_region 9 with (first
      | ((with_reducible refine wpList_load_blk (o := ⟨some 18, .load 25 (.tmp 4), _, _, _, none⟩) rfl _ _ rfl w.heap.size 25 x.cells _ ?_ ?_ Try.underlying25 rfl (clk_sz _) ?_); rfl; exact b3)
      | (go_at_call 10; (with_reducible refine (KR.out _).mono ?_); rintro e w1 ⟨rfl, l1⟩; replace b3 := b3.keep l1; replace lw := Later.trans_ lw l1)
      | ((with_reducible refine wpList_load_blk (o := ⟨some 39, .load 25 (.tmp 4), _, _, _, none⟩) rfl _ _ rfl w.heap.size 25 x.cells _ ?_ ?_ Try.underlying25 rfl (clk_sz _) ?_); rfl; exact b3)
      | (go_at_call 17; (with_reducible refine (K1.out _).mono ?_); rintro e w3 ⟨rfl, l1⟩; replace b3 := b3.keep l1; replace lw := Later.trans_ lw l1; have HX3 := Lib.hid b3.lt)
      | ((with_reducible refine wpList_store_abs (o := ⟨none, .store 25 (.tmp 11) (.tmp 45), _, _, _, none⟩) rfl _ _ _ rfl w3.heap.size 25 zK.cells d.cells ?_ ?_ ?_ ?_ ?_ ?_ ?_); rfl; rfl; exact (Blk.new _ _ _ _ rfl); exact clk_sz _; rfl; exact clk_one _; intro u3 b11 ob11; replace b3 := (b3.alloc (.cells zK.cells.toArray 25)).only ob11 (Nat.ne_of_lt b3.lt); replace lw := Below.only (lw.alloc lw.size (.cells zK.cells.toArray 25)) ob11 lw.size; clear ob11))
    rw [HD.out] at b11
    have H15 := Lib.hid (show w.heap.size < w3.heap.size from HX3.out)
    clear d0 d1 d2 K1 HX3
    go_wp2
    go_loopw [13, 14] (fun r i wr => ∃ j : Nat, 1 ≤ j ∧ j ≤ 401 ∧ i = .int .i64 j ∧ (∃ rg : Int, r = .int .i64 rg ∧ rg = rung v j) ∧ Blk wr w.heap.size 25 x.cells ∧ Blk wr w3.heap.size 25 (atJ x k n v j).cells ∧ Later w wr) (fun _ i _ => 401 - (intOf i).toNat)
    case atStart => exact ⟨1, by omega, by omega, rfl, ⟨0, rfl, hr1.out⟩, b3, b11, lw⟩
    case round =>
      clear b3 b11 lw HD hr1
      obtain ⟨j, hj1, hj, rfl, HRr, b3, b11, lw⟩ := hrel
      obtain ⟨rg, rfl, hrg⟩ := HRr
      by_cases hlt : j ≤ 400
      · have hjn : (j : Int) ≤ 400 := by omega
        have hj0 : (0 : Int) ≤ j := by omega
        have hst := atJ_step (x := x) (n := n) (v := v) hk4 HN.out HV.out hj1 hlt
        have KF := Lib.hid fun w' => fire_any (atJ x k n v j) (k : Int) (n + j) w'
        rw [hst.1, hst.2] at KF
        have s1 : IntKind.i64.wrap (n + (j : Int)) = n + (j : Int) := by have := HN.out; rw [IntKind.wrap_i64]; omega
        have hrs := rung_step (v := v) hj1
        have hrb := rung_small v j
        rw [← hrg] at hrs hrb
        have s2 : IntKind.i64.wrap (rg + 1) = rg + 1 := by rw [IntKind.wrap_i64]; omega
        have HX := Lib.hid (show (atJ x k n v (j + 1)) = atJ x k n v (j + 1) from rfl)
        obtain ⟨d, hd⟩ : ∃ d, d = atJ x k n v j := ⟨_, rfl⟩
        obtain ⟨f, hf⟩ : ∃ d, d = atJ x k n v (j + 1) := ⟨_, rfl⟩
        rw [← hd] at KF b11
        rw [← hf] at KF
        have HF := Lib.hid hf
        clear hst hd hf hrb hrg HX
        by_cases e : (j : Int) = v
        · rw [if_pos e] at hrs
          rw [decide_eq_true e] at KF
          have HRS := Lib.hid hrs
          obtain rfl := e
          clear hrs
          go_wp2_with (first
        | ((with_reducible refine wpList_load_blk (o := ⟨some 54, .load 25 (.tmp 11), _, _, _, none⟩) rfl _ _ rfl w3.heap.size 25 d.cells _ ?_ ?_ Try.underlying25 rfl (clk_sz _) ?_); rfl; exact b11)
        | (go_at_call 18; (with_reducible refine (KF.out _).mono ?_); rintro e w5 ⟨rfl, l1⟩; replace b3 := b3.keep l1; replace b11 := b11.keep l1; replace lw := Later.trans_ lw l1)
        | ((with_reducible refine wpList_store_abs (o := ⟨none, .store 25 (.tmp 15) (.tmp 60), _, _, _, none⟩) rfl _ _ _ rfl w5.heap.size 25 zK.cells f.cells ?_ ?_ ?_ ?_ ?_ ?_ ?_); rfl; rfl; exact (Blk.new _ _ _ _ rfl); exact clk_sz _; rfl; exact clk_one _; intro u5 b15 ob15; replace b3 := (b3.alloc (.cells zK.cells.toArray 25)).only ob15 (Nat.ne_of_lt b3.lt); replace b11 := (b11.alloc (.cells zK.cells.toArray 25)).only ob15 (Nat.ne_of_lt b11.lt); replace lw := Below.only (lw.alloc lw.size (.cells zK.cells.toArray 25)) ob15 lw.size; clear ob15)
        | ((with_reducible refine wpList_load_blk (o := ⟨some 69, .load 25 (.tmp 15), _, _, _, none⟩) rfl _ _ rfl w5.heap.size 25 f.cells _ ?_ ?_ Try.underlying25 rfl (clk_sz _) ?_); rfl; exact b15)
        | ((with_reducible refine wpList_store_abs (o := ⟨none, .store 25 (.tmp 11) (.tmp 69), _, _, _, none⟩) rfl _ _ _ rfl w3.heap.size 25 d.cells f.cells ?_ ?_ ?_ ?_ ?_ ?_ ?_); rfl; rfl; exact b11; exact clk_sz _; rfl; exact clk_one _; intro u6 bq oq; clear b11; have b11 := bq; clear bq; replace b3 := b3.only oq (Nat.ne_of_lt H15.out); replace lw := Below.only lw oq (Nat.le_of_lt H15.out); clear oq b15))
          go_roundw
          case rel => exact ⟨j + 1, by omega, by omega, by go_num, ⟨_, rfl, HRS.out.symm⟩, b3, by rw [← HF.out]; exact b11, lw⟩
          case measure => simp [intOf]; omega
        · rw [if_neg e] at hrs
          rw [decide_eq_false e] at KF
          have HRS := Lib.hid hrs
          clear hrs e
          go_wp2_with (first
        | ((with_reducible refine wpList_load_blk (o := ⟨some 54, .load 25 (.tmp 11), _, _, _, none⟩) rfl _ _ rfl w3.heap.size 25 d.cells _ ?_ ?_ Try.underlying25 rfl (clk_sz _) ?_); rfl; exact b11)
        | (go_at_call 18; (with_reducible refine (KF.out _).mono ?_); rintro e w5 ⟨rfl, l1⟩; replace b3 := b3.keep l1; replace b11 := b11.keep l1; replace lw := Later.trans_ lw l1)
        | ((with_reducible refine wpList_store_abs (o := ⟨none, .store 25 (.tmp 15) (.tmp 60), _, _, _, none⟩) rfl _ _ _ rfl w5.heap.size 25 zK.cells f.cells ?_ ?_ ?_ ?_ ?_ ?_ ?_); rfl; rfl; exact (Blk.new _ _ _ _ rfl); exact clk_sz _; rfl; exact clk_one _; intro u5 b15 ob15; replace b3 := (b3.alloc (.cells zK.cells.toArray 25)).only ob15 (Nat.ne_of_lt b3.lt); replace b11 := (b11.alloc (.cells zK.cells.toArray 25)).only ob15 (Nat.ne_of_lt b11.lt); replace lw := Below.only (lw.alloc lw.size (.cells zK.cells.toArray 25)) ob15 lw.size; clear ob15)
        | ((with_reducible refine wpList_load_blk (o := ⟨some 69, .load 25 (.tmp 15), _, _, _, none⟩) rfl _ _ rfl w5.heap.size 25 f.cells _ ?_ ?_ Try.underlying25 rfl (clk_sz _) ?_); rfl; exact b15)
        | ((with_reducible refine wpList_store_abs (o := ⟨none, .store 25 (.tmp 11) (.tmp 69), _, _, _, none⟩) rfl _ _ _ rfl w3.heap.size 25 d.cells f.cells ?_ ?_ ?_ ?_ ?_ ?_ ?_); rfl; rfl; exact b11; exact clk_sz _; rfl; exact clk_one _; intro u6 bq oq; clear b11; have b11 := bq; clear bq; replace b3 := b3.only oq (Nat.ne_of_lt H15.out); replace lw := Below.only lw oq (Nat.le_of_lt H15.out); clear oq b15))
          go_roundw
          case rel => exact ⟨j + 1, by omega, by omega, by go_num, ⟨_, rfl, HRS.out.symm⟩, b3, by rw [← HF.out]; exact b11, lw⟩
          case measure => simp [intOf]; omega
      · obtain rfl : j = 401 := by omega
        have hz : atJ x k n v 401 = { x with a := upd x.a k 0 } := by unfold atJ; rw [if_neg (by have := HV.out; omega)]
        rw [hz] at b11
        obtain ⟨z, hzz⟩ : ∃ z, z = ({ x with a := upd x.a k 0 } : Clk) := ⟨_, rfl⟩
        rw [← hzz] at b11
        have HZ := Lib.hid hzz
        have hqz := clk_same z
        have h11 := b11.lt
        have h4w := lw.size
        have hk0 : (0 : Int) ≤ k := by omega
        have hk4i : (k : Int) < 4 := by omega
        clear hlt hj hj1 hz hzz
        by_cases v0 : v = 0
        · have hr0 : rg = 0 := by rw [hrg]; unfold rung; rw [if_neg (by omega)]
          clear hrg
          subst hr0
          subst v0
          go_upto_region 20 with (first
            | ((with_reducible refine wpList_load_blk (o := ⟨some 70, .load 25 (.tmp 4), _, _, _, none⟩) rfl _ _ rfl w.heap.size 25 x.cells _ ?_ ?_ Try.underlying25 rfl (clk_sz _) ?_); rfl; exact b3)
            | ((with_reducible refine wpList_store_abs (o := ⟨none, .store 25 (.tmp 17) (.tmp 70), _, _, _, none⟩) rfl _ _ _ rfl wr.heap.size 25 zK.cells x.cells ?_ ?_ ?_ ?_ ?_ ?_ ?_); rfl; rfl; exact (Blk.new _ _ _ _ rfl); exact clk_sz _; rfl; exact clk_one _; intro u7 b17 ob17; replace b3 := (b3.alloc (.cells zK.cells.toArray 25)).only ob17 (Nat.ne_of_lt b3.lt); replace b11 := (b11.alloc (.cells zK.cells.toArray 25)).only ob17 (Nat.ne_of_lt b11.lt); replace lw := Below.only (lw.alloc lw.size (.cells zK.cells.toArray 25)) ob17 lw.size; clear ob17)
            | ((with_reducible refine wpList_set1 (o := ⟨none, .store 3 (.tmp 73) (.const (.int .i64 0)), _, _, _, none⟩) rfl _ _ _ rfl rfl wr.heap.size (9 + k) 25 x.cells (.int .i64 0) ?_ ?_ ?_ ?_ ?_ ?_ ?_); rfl; rfl; exact b17; exact i_sz; exact (show 9 + k < 13 by omega); rfl; intro u8 bq oq; clear b17; have b17 := bq; rw [set_a _ hk4] at b17; clear bq; replace b11 := b11.only oq (Nat.ne_of_lt h11); replace lw := Below.only lw oq h4w; clear oq))
          clear b3 h11 h4w
          rw [← HZ.out] at b17
          go_wp2_with (first
            | (go_at_call 12; (with_reducible refine (KS.out _).mono ?_); rintro e w8 ⟨rfl, l1⟩; replace b11 := b11.keep l1; replace b17 := b17.keep l1; replace lw := Later.trans_ lw l1)
            | ((with_reducible refine wpList_load_g (o := ⟨some 76, .load 25 (.tmp 11), _, _, _, _⟩) _ _ rfl w3.heap.size 25 z.cells _ ?_ ?_ ?_ Try.underlying25 ?_ (clk_sz _) ?_); rfl; rfl; exact b11; rfl)
            | ((with_reducible refine wpList_load_g (o := ⟨some 77, .load 25 (.tmp 17), _, _, _, _⟩) _ _ rfl wr.heap.size 25 z.cells _ ?_ ?_ ?_ Try.underlying25 ?_ (clk_sz _) ?_); rfl; rfl; exact b17; rfl))
          go_ret
          exact ⟨rfl, lw⟩
        · have hr0 : rg = 1 := by rw [hrg]; unfold rung; rw [if_pos (by have := HV.out; omega)]
          clear hrg
          subst hr0
          have vp : decide (0 < v) = true := decide_eq_true (by have := HV.out; omega)
          go_upto_region 20 with (first
            | ((with_reducible refine wpList_load_blk (o := ⟨some 70, .load 25 (.tmp 4), _, _, _, none⟩) rfl _ _ rfl w.heap.size 25 x.cells _ ?_ ?_ Try.underlying25 rfl (clk_sz _) ?_); rfl; exact b3)
            | ((with_reducible refine wpList_store_abs (o := ⟨none, .store 25 (.tmp 17) (.tmp 70), _, _, _, none⟩) rfl _ _ _ rfl wr.heap.size 25 zK.cells x.cells ?_ ?_ ?_ ?_ ?_ ?_ ?_); rfl; rfl; exact (Blk.new _ _ _ _ rfl); exact clk_sz _; rfl; exact clk_one _; intro u7 b17 ob17; replace b3 := (b3.alloc (.cells zK.cells.toArray 25)).only ob17 (Nat.ne_of_lt b3.lt); replace b11 := (b11.alloc (.cells zK.cells.toArray 25)).only ob17 (Nat.ne_of_lt b11.lt); replace lw := Below.only (lw.alloc lw.size (.cells zK.cells.toArray 25)) ob17 lw.size; clear ob17)
            | ((with_reducible refine wpList_set1 (o := ⟨none, .store 3 (.tmp 73) (.const (.int .i64 0)), _, _, _, none⟩) rfl _ _ _ rfl rfl wr.heap.size (9 + k) 25 x.cells (.int .i64 0) ?_ ?_ ?_ ?_ ?_ ?_ ?_); rfl; rfl; exact b17; exact i_sz; exact (show 9 + k < 13 by omega); rfl; intro u8 bq oq; clear b17; have b17 := bq; rw [set_a _ hk4] at b17; clear bq; replace b11 := b11.only oq (Nat.ne_of_lt h11); replace lw := Below.only lw oq h4w; clear oq))
          clear b3 h11 h4w
          rw [← HZ.out] at b17
          go_wp2_with (first
            | (go_at_call 12; (with_reducible refine (KS.out _).mono ?_); rintro e w8 ⟨rfl, l1⟩; replace b11 := b11.keep l1; replace b17 := b17.keep l1; replace lw := Later.trans_ lw l1)
            | ((with_reducible refine wpList_load_g (o := ⟨some 76, .load 25 (.tmp 11), _, _, _, _⟩) _ _ rfl w3.heap.size 25 z.cells _ ?_ ?_ ?_ Try.underlying25 ?_ (clk_sz _) ?_); rfl; rfl; exact b11; rfl)
            | ((with_reducible refine wpList_load_g (o := ⟨some 77, .load 25 (.tmp 17), _, _, _, _⟩) _ _ rfl wr.heap.size 25 z.cells _ ?_ ?_ ?_ Try.underlying25 ?_ (clk_sz _) ?_); rfl; rfl; exact b17; rfl))
          go_ret
          exact ⟨rfl, lw⟩

set_option maxRecDepth 100000 in
theorem clockRingsOnce_lifted (os : Os) (started : os.Started) (H : Type) (enc : TypeId × Value → H) :
    ReturnsInHanded {} Try.checked os 8 .any (Rows.clockRingsOnceSpec.pre6 enc Try.prog Try.f8 Rows.clockRingsOnceRow.domain false) (Rows.clockRingsOnceSpec.post enc Try.prog Try.f8 false true false false) := by
  refine returnsInHanded_of_change (C := Try.checked) ownK started (by kernel_rfl) Try.func8
    (ChangeSpec.witness6 (enc := enc) (C := Try.checked) false ⟨#[], #[.agg #[.int .i64 0, .bool false, .bool false, .bool false, .bool false, .int .i64 0, .int .i64 0, .int .i64 0, .int .i64 0, .int .i64 0, .int .i64 0, .int .i64 0, .int .i64 0], .int .u8 0, .int .i64 0, .int .u16 0], []⟩ 8 (by kernel_rfl) (by kernel_rfl) (by kernel_rfl) (by kernel_rfl)) ?_
  intro W base args ds gs before hval0 hW hcnd _
  have hval : ∀ (j : Nat) t v, Try.f8.params[j]? = some t → args[j]? = some v → Value.okWide Try.prog W .any base t v := hval0
  have hW' := hW
  obtain ⟨p, q, hA0, hV, rfl, hfz, hnd⟩ := hW
  have hA : DataW.TrodAll enc Try.prog W 0 (fun _ => true) true Try.f8.params.toList args.toList ds p := hA0
  rw [Try.params8] at hA hval
  obtain ⟨v0, vs0, d0, ds0, p0, q0, hargs, rfl, rfl, h0, r0⟩ := trodAll_cons hA
  obtain ⟨v1, vs1, d1, ds1, p1, q1, rfl, rfl, rfl, h1, r1⟩ := trodAll_cons r0
  obtain ⟨v2, vs2, d2, ds2, p2, q2, rfl, rfl, rfl, h2, r2⟩ := trodAll_cons r1
  obtain ⟨v3, vs3, d3, ds3, p3, q3, rfl, rfl, rfl, h3, r3⟩ := trodAll_cons r2
  obtain ⟨rfl, rfl, rfl⟩ := trodAll_nil r3
  obtain rfl : args = #[v0, v1, v2, v3] := by cases args; simp_all
  obtain ⟨rfl, rfl⟩ := trodVars_none hV
  obtain ⟨a0, rfl, z0⟩ := clk_open (hval 0 25 v0 rfl rfl) h0
  obtain ⟨a1, rfl, _, _, w1⟩ := open_int Try.underlying5 (hval 1 5 v1 rfl rfl) h1
  have z1 : 0 ≤ a1 ∧ a1 ≤ 255 := by
    have e1 : IntKind.u8.min = 0 := rfl
    have e2 : IntKind.u8.max = 255 := rfl
    simp only [Lit.wf, Bool.and_eq_true, decide_eq_true_eq] at w1
    omega
  obtain ⟨a2, rfl, z2⟩ := int_arg Try.underlying3 (hval 2 3 v2 rfl rfl) h2
  obtain ⟨a3, rfl, _, _, w3⟩ := open_int Try.underlying59 (hval 3 59 v3 rfl rfl) h3
  have z3 : 0 ≤ a3 ∧ a3 ≤ 65535 := by
    have e1 : IntKind.u16.min = 0 := rfl
    have e2 : IntKind.u16.max = 65535 := rfl
    simp only [Lit.wf, Bool.and_eq_true, decide_eq_true_eq] at w3
    omega
  clear hA0 hval0
  simp only [List.append_nil] at hW'
  refine (once_all a0 a1 a2 a3 W z1 z3).mono fun e W' ⟨he, hw⟩ => ?_
  subst he
  exact ⟨_, rfl, law_post laidK rfl (by kernel_rfl) (by kernel_rfl) Try.underlying4 (by kernel_rfl) hW' rfl hw⟩
set_option maxRecDepth 100000 in
/-- The statement. -/
theorem clockRingsOnce_said : Rows.ClockRingsOnceSaid :=
  OpenClaim.holds_of_wide 8 Try.f8 rfl rfl rfl rfl rfl rfl rfl ⟨rfl, rfl, rfl, rfl, rfl⟩ rfl rfl rfl rfl rfl (by kernel_rfl) Try.func8 (by kernel_rfl)
    (of_decide_eq_true (by kernel_rfl)) (by unfold Func.isWrapper; first | (rw [if_pos (by decide +kernel)]; kernel_rfl) | (rw [if_neg (by decide +kernel)]; exact ⟨rfl, rfl⟩))
    (fun os started H enc _ => clockRingsOnce_lifted os started H enc)
#print axioms clockRingsOnce_said
end Go.Proofs.Ytdohocbpjpnmeaa
