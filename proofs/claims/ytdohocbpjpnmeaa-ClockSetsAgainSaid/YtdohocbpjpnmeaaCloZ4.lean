/-
  THE STATEMENT ClockSetsAgain: of two alarms of a processor, the second set before the first is due, only the second fires; with 0 none; for every clock, processor, count and alarms.
-/
import Derived.Test.YtdohocbpjpnmeaaCloI
import Derived.Deep.RegionHeld
namespace Go.Proofs.Ytdohocbpjpnmeaa
open Go.RowKit Go.ChangeShapes Go.WideShapes Go.ChangeAt

theorem alarm_at {n v : Int} (hv : v ≠ 0) (h : n + v ≤ 1099511627776) : alarm n v = n + v := by unfold alarm; rw [if_neg hv, Int.min_eq_left h]
theorem setE_0 {k : Nat} {n : Int} (hk : k < 4) (hn : 0 ≤ n ∧ n ≤ 1099511627776) : setE (k : Int) n = 0 := by
  unfold setE
  rw [isC_nat hk, show isN n = true from decide_eq_true hn]
  rfl
theorem set_next (x : Clk) {k : Nat} {n v : Int} (hk : k < 4) (hn : 0 ≤ n ∧ n ≤ 1099511627776) : (x.setC (k : Int) n v).next (k : Int) = alarm n v := by
  unfold Clk.next Clk.setC
  rw [isC_nat hk, if_pos rfl, if_pos (setE_0 hk hn), Int.toNat_natCast]
  exact upd_at _ _ _
theorem fire_no {x : Clk} {c n : Int} (h : x.next c = 0 ∨ n < x.next c) : x.fire c n = false ∧ x.fireC c n = x := by
  have hf : x.fire c n = false := by unfold Clk.fire; rcases h with h | h <;> simp [h]
  exact ⟨hf, by unfold Clk.fireC; rw [hf]; rfl⟩
theorem fire_yes {x : Clk} {c n : Int} (h : x.next c ≠ 0 ∧ ¬ n < x.next c) : x.fire c n = true := by
  unfold Clk.fire; simp [h.1, h.2]
set_option maxRecDepth 100000 in
set_option maxHeartbeats 8000000 in
theorem again_all (x : Clk) (cp n one two bw : Int) (w : World) (hcp : 0 ≤ cp ∧ cp ≤ 255) (h1 : 0 ≤ one ∧ one ≤ 65535) (h2 : 0 ≤ two ∧ two ≤ 65535) (h3 : 0 ≤ bw ∧ bw ≤ 65535) : Calls Try.prog 9 #[.agg x.cells.toArray, .int .u8 cp, .int .i64 n, .int .u16 one, .int .u16 two, .int .u16 bw] w fun e w' => e = .returned (.bool true) ∧ Later w w' := by
  have KS := Lib.hid fun w' => sanity_any w'
  have b3 := Blk.new w 25 x.cells.toArray x.cells rfl
  have lw := later1 w (.cells x.cells.toArray 25)
  obtain ⟨u0, hu⟩ : ∃ u0, w.alloc (.cells x.cells.toArray 25) = u0 := ⟨_, rfl⟩
  rw [hu] at b3 lw
  obtain ⟨b, hb⟩ := ok_dec x
  have KR := Lib.hid fun w' => rvalid_any x b w' hb
  clear hb
  cases b with
  | false =>
    clear hcp h1 h2 h3
    go_enter Try.func9, Try.ntmps9
    go_upto_region 1 with fail
    clear hu
    go_wp2_with (first
      | ((with_reducible refine wpList_load_blk (o := ⟨some 27, .load 25 (.tmp 6), _, _, _, none⟩) rfl _ _ rfl w.heap.size 25 x.cells _ ?_ ?_ Try.underlying25 rfl (clk_sz _) ?_); rfl; exact b3)
      | (go_at_call 10; (with_reducible refine (KR.out _).mono ?_); rintro e w1 ⟨rfl, l1⟩; replace b3 := b3.keep l1; replace lw := Later.trans_ lw l1)
      | (go_at_call 12; (with_reducible refine (KS.out _).mono ?_); rintro e w3 ⟨rfl, l1⟩; replace b3 := b3.keep l1; replace lw := Later.trans_ lw l1))
    go_ret
    exact ⟨rfl, lw⟩
  | true =>
    by_cases n0 : n < 0
    · have d0 : decide (n < 0) = true := decide_eq_true n0
      clear hcp h1 h2 h3 n0
      go_enter Try.func9, Try.ntmps9
      go_upto_region 1 with fail
      clear hu
      go_wp2_with (first
        | ((with_reducible refine wpList_load_blk (o := ⟨some 27, .load 25 (.tmp 6), _, _, _, none⟩) rfl _ _ rfl w.heap.size 25 x.cells _ ?_ ?_ Try.underlying25 rfl (clk_sz _) ?_); rfl; exact b3)
        | (go_at_call 10; (with_reducible refine (KR.out _).mono ?_); rintro e w1 ⟨rfl, l1⟩; replace b3 := b3.keep l1; replace lw := Later.trans_ lw l1)
        | (go_at_call 12; (with_reducible refine (KS.out _).mono ?_); rintro e w3 ⟨rfl, l1⟩; replace b3 := b3.keep l1; replace lw := Later.trans_ lw l1))
      go_ret
      exact ⟨rfl, lw⟩
    have d0 : decide (n < 0) = false := decide_eq_false n0
    by_cases n1 : 1099511427776 < n
    · have d1 : decide (1099511427776 < n) = true := decide_eq_true n1
      clear hcp h1 h2 h3 n0 n1
      go_enter Try.func9, Try.ntmps9
      go_upto_region 1 with fail
      clear hu
      go_wp2_with (first
        | ((with_reducible refine wpList_load_blk (o := ⟨some 27, .load 25 (.tmp 6), _, _, _, none⟩) rfl _ _ rfl w.heap.size 25 x.cells _ ?_ ?_ Try.underlying25 rfl (clk_sz _) ?_); rfl; exact b3)
        | (go_at_call 10; (with_reducible refine (KR.out _).mono ?_); rintro e w1 ⟨rfl, l1⟩; replace b3 := b3.keep l1; replace lw := Later.trans_ lw l1)
        | (go_at_call 12; (with_reducible refine (KS.out _).mono ?_); rintro e w3 ⟨rfl, l1⟩; replace b3 := b3.keep l1; replace lw := Later.trans_ lw l1))
      go_ret
      exact ⟨rfl, lw⟩
    have d1 : decide (1099511427776 < n) = false := decide_eq_false n1
    by_cases z1 : one = 0
    · subst z1
      clear hcp h1 h2 h3 n0 n1
      go_enter Try.func9, Try.ntmps9
      go_upto_region 1 with fail
      clear hu
      go_wp2_with (first
        | ((with_reducible refine wpList_load_blk (o := ⟨some 27, .load 25 (.tmp 6), _, _, _, none⟩) rfl _ _ rfl w.heap.size 25 x.cells _ ?_ ?_ Try.underlying25 rfl (clk_sz _) ?_); rfl; exact b3)
        | (go_at_call 10; (with_reducible refine (KR.out _).mono ?_); rintro e w1 ⟨rfl, l1⟩; replace b3 := b3.keep l1; replace lw := Later.trans_ lw l1)
        | (go_at_call 12; (with_reducible refine (KS.out _).mono ?_); rintro e w3 ⟨rfl, l1⟩; replace b3 := b3.keep l1; replace lw := Later.trans_ lw l1))
      go_ret
      exact ⟨rfl, lw⟩
    have d2 : (one == 0) = false := beq_false_of_ne z1
    by_cases z2 : one ≤ bw
    · have d3 : decide (one ≤ bw) = true := decide_eq_true z2
      clear hcp h1 h2 h3 n0 n1 z1 z2
      go_enter Try.func9, Try.ntmps9
      go_upto_region 1 with fail
      clear hu
      go_wp2_with (first
        | ((with_reducible refine wpList_load_blk (o := ⟨some 27, .load 25 (.tmp 6), _, _, _, none⟩) rfl _ _ rfl w.heap.size 25 x.cells _ ?_ ?_ Try.underlying25 rfl (clk_sz _) ?_); rfl; exact b3)
        | (go_at_call 10; (with_reducible refine (KR.out _).mono ?_); rintro e w1 ⟨rfl, l1⟩; replace b3 := b3.keep l1; replace lw := Later.trans_ lw l1)
        | (go_at_call 12; (with_reducible refine (KS.out _).mono ?_); rintro e w3 ⟨rfl, l1⟩; replace b3 := b3.keep l1; replace lw := Later.trans_ lw l1))
      go_ret
      exact ⟨rfl, lw⟩
    have d3 : decide (one ≤ bw) = false := decide_eq_false z2
    obtain ⟨k, hk⟩ : ∃ k : Nat, k = (cp % 4).toNat := ⟨_, rfl⟩
    have hk4 : k < 4 := by omega
    have m1 : cp.tmod 4 = (k : Int) := by rw [Int.tmod_eq_emod_of_nonneg hcp.1]; omega
    have m2 : IntKind.u8.wrap (k : Int) = (k : Int) := by rw [IntKind.wrap_u8]; omega
    have m3 : (k : Int) % 256 = (k : Int) := by omega
    have m4 : IntKind.i64.wrap (k : Int) = (k : Int) := by rw [IntKind.wrap_i64]; omega
    have w1' : IntKind.u32.wrap one = one := by rw [IntKind.wrap_u32]; omega
    have w2' : one % 4294967296 = one := by omega
    have w3' : IntKind.u32.wrap two = two := by rw [IntKind.wrap_u32]; omega
    have w4' : two % 4294967296 = two := by omega
    have w5' : IntKind.i64.wrap bw = bw := by rw [IntKind.wrap_i64]; omega
    have w6' : IntKind.i64.wrap two = two := by rw [IntKind.wrap_i64]; omega
    have w7' : IntKind.i64.wrap (n + bw) = n + bw := by rw [IntKind.wrap_i64]; omega
    have w8' : IntKind.i64.wrap (n + 200000) = n + 200000 := by rw [IntKind.wrap_i64]; omega
    have w9' : IntKind.i64.wrap (n + bw + two) = n + bw + two := by rw [IntKind.wrap_i64]; omega
    have w0' : IntKind.i64.wrap (n + bw + two - 1) = n + bw + two - 1 := by rw [IntKind.wrap_i64]; omega
    have K1 := Lib.hid fun w' => set_any x (k : Int) n one w' ⟨by omega, by omega⟩
    rw [setE_0 (n := n) hk4 ⟨by omega, by omega⟩] at K1
    have x1 : (x.setC (k : Int) n one).next (k : Int) = n + one := by rw [set_next x hk4 ⟨by omega, by omega⟩, alarm_at z1 (by omega)]
    obtain ⟨d, hd⟩ : ∃ d, d = x.setC (k : Int) n one := ⟨_, rfl⟩
    rw [← hd] at K1 x1
    have K2 := Lib.hid fun w' => fire_any d (k : Int) (n + bw) w'
    have f2 := fire_no (x := d) (c := (k : Int)) (n := n + bw) (by rw [x1]; right; omega)
    rw [f2.1, f2.2] at K2
    have K3 := Lib.hid fun w' => set_any d (k : Int) (n + bw) two w' ⟨by omega, by omega⟩
    rw [setE_0 (n := n + bw) hk4 ⟨by omega, by omega⟩] at K3
    have x3 : (d.setC (k : Int) (n + bw) two).next (k : Int) = alarm (n + bw) two := set_next d hk4 ⟨by omega, by omega⟩
    obtain ⟨f, hf⟩ : ∃ d', d' = d.setC (k : Int) (n + bw) two := ⟨_, rfl⟩
    rw [← hf] at K3 x3
    have K7 := Lib.hid fun w' => next_any f (k : Int) w'
    rw [x3] at K7
    have hqd := clk_same d
    by_cases t0 : two = 0
    · subst t0
      have x4 : alarm (n + bw) 0 = 0 := if_pos rfl
      rw [x4] at K7 x3
      have K4 := Lib.hid fun w' => fire_any f (k : Int) (n + 200000) w'
      have f4 := fire_no (x := f) (c := (k : Int)) (n := n + 200000) (Or.inl x3)
      rw [f4.1, f4.2] at K4
      clear hk x1 x3 x4 f2 f4 hd hf hcp h1 h2 h3 n0 n1 z1 z2 w9' w0' w6'
      go_enter Try.func9, Try.ntmps9
      go_upto_region 1 with fail
      clear hu
      go_upto_region 7 with (first
        | ((with_reducible refine wpList_load_blk (o := ⟨some 27, .load 25 (.tmp 6), _, _, _, none⟩) rfl _ _ rfl w.heap.size 25 x.cells _ ?_ ?_ Try.underlying25 rfl (clk_sz _) ?_); rfl; exact b3)
        | (go_at_call 10; (with_reducible refine (KR.out _).mono ?_); rintro e w1 ⟨rfl, l1⟩; replace b3 := b3.keep l1; replace lw := Later.trans_ lw l1)
        | ((with_reducible refine wpList_load_blk (o := ⟨some 53, .load 25 (.tmp 6), _, _, _, none⟩) rfl _ _ rfl w.heap.size 25 x.cells _ ?_ ?_ Try.underlying25 rfl (clk_sz _) ?_); rfl; exact b3)
        | (go_at_call 17; (with_reducible refine (K1.out _).mono ?_); rintro e w3 ⟨rfl, l1⟩; replace b3 := b3.keep l1; replace lw := Later.trans_ lw l1; have L3 := Lib.hid lw)
        | ((with_reducible refine wpList_store_abs (o := ⟨none, .store 25 (.tmp 15) (.tmp 59), _, _, _, none⟩) rfl _ _ _ rfl w3.heap.size 25 zK.cells d.cells ?_ ?_ ?_ ?_ ?_ ?_ ?_); rfl; rfl; exact (Blk.new _ _ _ _ rfl); exact clk_sz _; rfl; exact clk_one _; intro u3 b15 ob15; replace b3 := (b3.alloc (.cells zK.cells.toArray 25)).only ob15 (Nat.ne_of_lt b3.lt); replace lw := Below.only (lw.alloc lw.size (.cells zK.cells.toArray 25)) ob15 lw.size; clear ob15))
      clear b3
      have h15 : w.heap.size ≤ w3.heap.size := L3.out.size
      clear L3
      go_upto_region 10 with (first
        | ((with_reducible refine wpList_load_blk (o := ⟨some 66, .load 25 (.tmp 15), _, _, _, none⟩) rfl _ _ rfl w3.heap.size 25 d.cells _ ?_ ?_ Try.underlying25 rfl (clk_sz _) ?_); rfl; exact b15)
        | (go_at_call 18; (with_reducible refine (K2.out _).mono ?_); rintro e w4 ⟨rfl, l1⟩; replace b15 := b15.keep l1; replace lw := Later.trans_ lw l1)
        | ((with_reducible refine wpList_store_abs (o := ⟨none, .store 25 (.tmp 18) (.tmp 70), _, _, _, none⟩) rfl _ _ _ rfl w4.heap.size 25 zK.cells d.cells ?_ ?_ ?_ ?_ ?_ ?_ ?_); rfl; rfl; exact (Blk.new _ _ _ _ rfl); exact clk_sz _; rfl; exact clk_one _; intro u4 b18 ob18; replace b15 := (b15.alloc (.cells zK.cells.toArray 25)).only ob18 (Nat.ne_of_lt b15.lt); replace lw := Below.only (lw.alloc lw.size (.cells zK.cells.toArray 25)) ob18 lw.size; clear ob18)
        | ((with_reducible refine wpList_load_g (o := ⟨some 78, .load 25 (.tmp 18), _, _, _, _⟩) _ _ rfl w4.heap.size 25 d.cells _ ?_ ?_ ?_ Try.underlying25 ?_ (clk_sz _) ?_); rfl; rfl; exact b18; rfl)
        | ((with_reducible refine wpList_load_g (o := ⟨some 79, .load 25 (.tmp 15), _, _, _, _⟩) _ _ rfl w3.heap.size 25 d.cells _ ?_ ?_ ?_ Try.underlying25 ?_ (clk_sz _) ?_); rfl; rfl; exact b15; rfl))
      clear b18
      go_upto_region 13 with (first
        | ((with_reducible refine wpList_load_blk (o := ⟨some 83, .load 25 (.tmp 15), _, _, _, none⟩) rfl _ _ rfl w3.heap.size 25 d.cells _ ?_ ?_ Try.underlying25 rfl (clk_sz _) ?_); rfl; exact b15)
        | (go_at_call 17; (with_reducible refine (K3.out _).mono ?_); rintro e w5 ⟨rfl, l1⟩; replace b15 := b15.keep l1; replace lw := Later.trans_ lw l1; have hlt := lw.size)
        | ((with_reducible refine wpList_store_abs (o := ⟨none, .store 25 (.tmp 15) (.tmp 89), _, _, _, none⟩) rfl _ _ _ rfl w3.heap.size 25 d.cells f.cells ?_ ?_ ?_ ?_ ?_ ?_ ?_); rfl; rfl; exact b15; exact clk_sz _; rfl; exact clk_one _; intro u5 bq oq; clear b15; have b15 := bq; clear bq; replace lw := Below.only lw oq h15; clear oq))
      go_wp2_with (first
        | ((with_reducible refine wpList_load_blk (o := ⟨some 96, .load 25 (.tmp 15), _, _, _, none⟩) rfl _ _ rfl w3.heap.size 25 f.cells _ ?_ ?_ Try.underlying25 rfl (clk_sz _) ?_); rfl; exact b15)
        | (go_at_call 18; (with_reducible refine (K4.out _).mono ?_); rintro e w6 ⟨rfl, l1⟩; replace b15 := b15.keep l1; replace lw := Later.trans_ lw l1)
        | ((with_reducible refine wpList_store_abs (o := ⟨none, .store 25 (.tmp 21) (.tmp 101), _, _, _, none⟩) rfl _ _ _ rfl w6.heap.size 25 zK.cells f.cells ?_ ?_ ?_ ?_ ?_ ?_ ?_); rfl; rfl; exact (Blk.new _ _ _ _ rfl); exact clk_sz _; rfl; exact clk_one _; intro u6 bz obz; replace b15 := (b15.alloc (.cells zK.cells.toArray 25)).only obz (Nat.ne_of_lt b15.lt); replace lw := Below.only (lw.alloc lw.size (.cells zK.cells.toArray 25)) obz lw.size; clear obz; clear bz)
        | (go_at_call 12; (with_reducible refine (KS.out _).mono ?_); rintro e w7 ⟨rfl, l1⟩; replace b15 := b15.keep l1; replace lw := Later.trans_ lw l1)
        | ((with_reducible refine wpList_load_g (o := ⟨some 109, .load 25 (.tmp 15), _, _, _, _⟩) _ _ rfl w3.heap.size 25 f.cells _ ?_ ?_ ?_ Try.underlying25 ?_ (clk_sz _) ?_); rfl; rfl; exact b15; rfl)
        | (go_at_call 21; (with_reducible refine (K7.out _).mono ?_); rintro e w8 ⟨rfl, l1⟩; replace b15 := b15.keep l1; replace lw := Later.trans_ lw l1))
      go_ret
      exact ⟨rfl, lw⟩
    · have d5 : (two == 0) = false := beq_false_of_ne t0
      have x4 : alarm (n + bw) two = n + bw + two := alarm_at t0 (by omega)
      rw [x4] at K7 x3
      have K5 := Lib.hid fun w' => fire_any f (k : Int) (n + bw + two - 1) w'
      have f5 := fire_no (x := f) (c := (k : Int)) (n := n + bw + two - 1) (by rw [x3]; right; omega)
      rw [f5.1, f5.2] at K5
      have K6 := Lib.hid fun w' => fire_any f (k : Int) (n + bw + two) w'
      rw [fire_yes (x := f) (c := (k : Int)) (n := n + bw + two) (by rw [x3]; omega)] at K6
      obtain ⟨g, hg⟩ : ∃ d', d' = f.fireC (k : Int) (n + bw + two) := ⟨_, rfl⟩
      rw [← hg] at K6
      clear hk x1 x3 x4 f2 f5 hd hf hg hcp h1 h2 h3 n0 n1 z1 z2 t0 w8'
      go_enter Try.func9, Try.ntmps9
      go_upto_region 1 with fail
      clear hu
      go_upto_region 7 with (first
        | ((with_reducible refine wpList_load_blk (o := ⟨some 27, .load 25 (.tmp 6), _, _, _, none⟩) rfl _ _ rfl w.heap.size 25 x.cells _ ?_ ?_ Try.underlying25 rfl (clk_sz _) ?_); rfl; exact b3)
        | (go_at_call 10; (with_reducible refine (KR.out _).mono ?_); rintro e w1 ⟨rfl, l1⟩; replace b3 := b3.keep l1; replace lw := Later.trans_ lw l1)
        | ((with_reducible refine wpList_load_blk (o := ⟨some 53, .load 25 (.tmp 6), _, _, _, none⟩) rfl _ _ rfl w.heap.size 25 x.cells _ ?_ ?_ Try.underlying25 rfl (clk_sz _) ?_); rfl; exact b3)
        | (go_at_call 17; (with_reducible refine (K1.out _).mono ?_); rintro e w3 ⟨rfl, l1⟩; replace b3 := b3.keep l1; replace lw := Later.trans_ lw l1; have L3 := Lib.hid lw)
        | ((with_reducible refine wpList_store_abs (o := ⟨none, .store 25 (.tmp 15) (.tmp 59), _, _, _, none⟩) rfl _ _ _ rfl w3.heap.size 25 zK.cells d.cells ?_ ?_ ?_ ?_ ?_ ?_ ?_); rfl; rfl; exact (Blk.new _ _ _ _ rfl); exact clk_sz _; rfl; exact clk_one _; intro u3 b15 ob15; replace b3 := (b3.alloc (.cells zK.cells.toArray 25)).only ob15 (Nat.ne_of_lt b3.lt); replace lw := Below.only (lw.alloc lw.size (.cells zK.cells.toArray 25)) ob15 lw.size; clear ob15))
      clear b3
      have h15 : w.heap.size ≤ w3.heap.size := L3.out.size
      clear L3
      go_upto_region 10 with (first
        | ((with_reducible refine wpList_load_blk (o := ⟨some 66, .load 25 (.tmp 15), _, _, _, none⟩) rfl _ _ rfl w3.heap.size 25 d.cells _ ?_ ?_ Try.underlying25 rfl (clk_sz _) ?_); rfl; exact b15)
        | (go_at_call 18; (with_reducible refine (K2.out _).mono ?_); rintro e w4 ⟨rfl, l1⟩; replace b15 := b15.keep l1; replace lw := Later.trans_ lw l1)
        | ((with_reducible refine wpList_store_abs (o := ⟨none, .store 25 (.tmp 18) (.tmp 70), _, _, _, none⟩) rfl _ _ _ rfl w4.heap.size 25 zK.cells d.cells ?_ ?_ ?_ ?_ ?_ ?_ ?_); rfl; rfl; exact (Blk.new _ _ _ _ rfl); exact clk_sz _; rfl; exact clk_one _; intro u4 b18 ob18; replace b15 := (b15.alloc (.cells zK.cells.toArray 25)).only ob18 (Nat.ne_of_lt b15.lt); replace lw := Below.only (lw.alloc lw.size (.cells zK.cells.toArray 25)) ob18 lw.size; clear ob18)
        | ((with_reducible refine wpList_load_g (o := ⟨some 78, .load 25 (.tmp 18), _, _, _, _⟩) _ _ rfl w4.heap.size 25 d.cells _ ?_ ?_ ?_ Try.underlying25 ?_ (clk_sz _) ?_); rfl; rfl; exact b18; rfl)
        | ((with_reducible refine wpList_load_g (o := ⟨some 79, .load 25 (.tmp 15), _, _, _, _⟩) _ _ rfl w3.heap.size 25 d.cells _ ?_ ?_ ?_ Try.underlying25 ?_ (clk_sz _) ?_); rfl; rfl; exact b15; rfl))
      clear b18
      go_upto_region 13 with (first
        | ((with_reducible refine wpList_load_blk (o := ⟨some 83, .load 25 (.tmp 15), _, _, _, none⟩) rfl _ _ rfl w3.heap.size 25 d.cells _ ?_ ?_ Try.underlying25 rfl (clk_sz _) ?_); rfl; exact b15)
        | (go_at_call 17; (with_reducible refine (K3.out _).mono ?_); rintro e w5 ⟨rfl, l1⟩; replace b15 := b15.keep l1; replace lw := Later.trans_ lw l1; have hlt := lw.size)
        | ((with_reducible refine wpList_store_abs (o := ⟨none, .store 25 (.tmp 15) (.tmp 89), _, _, _, none⟩) rfl _ _ _ rfl w3.heap.size 25 d.cells f.cells ?_ ?_ ?_ ?_ ?_ ?_ ?_); rfl; rfl; exact b15; exact clk_sz _; rfl; exact clk_one _; intro u5 bq oq; clear b15; have b15 := bq; clear bq; replace lw := Below.only lw oq h15; clear oq))
      go_wp2_with (first
        | ((with_reducible refine wpList_load_blk (o := ⟨some 115, .load 25 (.tmp 15), _, _, _, none⟩) rfl _ _ rfl w3.heap.size 25 f.cells _ ?_ ?_ Try.underlying25 rfl (clk_sz _) ?_); rfl; exact b15)
        | (go_at_call 18; (with_reducible refine (K5.out _).mono ?_); rintro e w6 ⟨rfl, l1⟩; replace b15 := b15.keep l1; replace lw := Later.trans_ lw l1)
        | ((with_reducible refine wpList_store_abs (o := ⟨none, .store 25 (.tmp 23) (.tmp 123), _, _, _, none⟩) rfl _ _ _ rfl w6.heap.size 25 zK.cells f.cells ?_ ?_ ?_ ?_ ?_ ?_ ?_); rfl; rfl; exact (Blk.new _ _ _ _ rfl); exact clk_sz _; rfl; exact clk_one _; intro u6 bz obz; replace b15 := (b15.alloc (.cells zK.cells.toArray 25)).only obz (Nat.ne_of_lt b15.lt); replace lw := Below.only (lw.alloc lw.size (.cells zK.cells.toArray 25)) obz lw.size; clear obz; clear bz)
        | ((with_reducible refine wpList_load_blk (o := ⟨some 126, .load 25 (.tmp 15), _, _, _, none⟩) rfl _ _ rfl w3.heap.size 25 f.cells _ ?_ ?_ Try.underlying25 rfl (clk_sz _) ?_); rfl; exact b15)
        | (go_at_call 18; (with_reducible refine (K6.out _).mono ?_); rintro e w7 ⟨rfl, l1⟩; replace b15 := b15.keep l1; replace lw := Later.trans_ lw l1)
        | ((with_reducible refine wpList_store_abs (o := ⟨none, .store 25 (.tmp 25) (.tmp 133), _, _, _, none⟩) rfl _ _ _ rfl w7.heap.size 25 zK.cells g.cells ?_ ?_ ?_ ?_ ?_ ?_ ?_); rfl; rfl; exact (Blk.new _ _ _ _ rfl); exact clk_sz _; rfl; exact clk_one _; intro u7 bz obz; replace b15 := (b15.alloc (.cells zK.cells.toArray 25)).only obz (Nat.ne_of_lt b15.lt); replace lw := Below.only (lw.alloc lw.size (.cells zK.cells.toArray 25)) obz lw.size; clear obz; clear bz)
        | (go_at_call 12; (with_reducible refine (KS.out _).mono ?_); rintro e w8 ⟨rfl, l1⟩; replace b15 := b15.keep l1; replace lw := Later.trans_ lw l1)
        | ((with_reducible refine wpList_load_g (o := ⟨some 144, .load 25 (.tmp 15), _, _, _, _⟩) _ _ rfl w3.heap.size 25 f.cells _ ?_ ?_ ?_ Try.underlying25 ?_ (clk_sz _) ?_); rfl; rfl; exact b15; rfl)
        | (go_at_call 21; (with_reducible refine (K7.out _).mono ?_); rintro e w9 ⟨rfl, l1⟩; replace b15 := b15.keep l1; replace lw := Later.trans_ lw l1))
      go_ret
      exact ⟨rfl, lw⟩

set_option maxRecDepth 100000 in
theorem clockSetsAgain_lifted (os : Os) (started : os.Started) (H : Type) (enc : TypeId × Value → H) :
    ReturnsInHanded {} Try.checked os 9 .any (Rows.clockSetsAgainSpec.pre6 enc Try.prog Try.f9 Rows.clockSetsAgainRow.domain false) (Rows.clockSetsAgainSpec.post enc Try.prog Try.f9 false true false false) := by
  refine returnsInHanded_of_change (C := Try.checked) ownK started (by kernel_rfl) Try.func9
    (ChangeSpec.witness6 (enc := enc) (C := Try.checked) false ⟨#[], #[.agg #[.int .i64 0, .bool false, .bool false, .bool false, .bool false, .int .i64 0, .int .i64 0, .int .i64 0, .int .i64 0, .int .i64 0, .int .i64 0, .int .i64 0, .int .i64 0], .int .u8 0, .int .i64 0, .int .u16 0, .int .u16 0, .int .u16 0], []⟩ 8 (by kernel_rfl) (by kernel_rfl) (by kernel_rfl) (by kernel_rfl)) ?_
  intro W base args ds gs before hval0 hW hcnd _
  have hval : ∀ (j : Nat) t v, Try.f9.params[j]? = some t → args[j]? = some v → Value.okWide Try.prog W .any base t v := hval0
  have hW' := hW
  obtain ⟨p, q, hA0, hV, rfl, hfz, hnd⟩ := hW
  have hA : DataW.TrodAll enc Try.prog W 0 (fun _ => true) true Try.f9.params.toList args.toList ds p := hA0
  rw [Try.params9] at hA hval
  obtain ⟨v0, vs0, d0, ds0, p0, q0, hargs, rfl, rfl, h0, r0⟩ := trodAll_cons hA
  obtain ⟨v1, vs1, d1, ds1, p1, q1, rfl, rfl, rfl, h1, r1⟩ := trodAll_cons r0
  obtain ⟨v2, vs2, d2, ds2, p2, q2, rfl, rfl, rfl, h2, r2⟩ := trodAll_cons r1
  obtain ⟨v3, vs3, d3, ds3, p3, q3, rfl, rfl, rfl, h3, r3⟩ := trodAll_cons r2
  obtain ⟨v4, vs4, d4, ds4, p4, q4, rfl, rfl, rfl, h4, r4⟩ := trodAll_cons r3
  obtain ⟨v5, vs5, d5, ds5, p5, q5, rfl, rfl, rfl, h5, r5⟩ := trodAll_cons r4
  obtain ⟨rfl, rfl, rfl⟩ := trodAll_nil r5
  obtain rfl : args = #[v0, v1, v2, v3, v4, v5] := by cases args; simp_all
  obtain ⟨rfl, rfl⟩ := trodVars_none hV
  obtain ⟨a0, rfl, z0⟩ := clk_open (hval 0 25 v0 rfl rfl) h0
  obtain ⟨a1, rfl, _, _, w1⟩ := open_int Try.underlying5 (hval 1 5 v1 rfl rfl) h1
  have z1 : 0 ≤ a1 ∧ a1 ≤ 255 := by
    have e1 : IntKind.u8.min = 0 := rfl
    have e2 : IntKind.u8.max = 255 := rfl
    simp only [Lit.wf, Bool.and_eq_true, decide_eq_true_eq] at w1
    omega
  obtain ⟨a2, rfl, z2⟩ := int_arg Try.underlying3 (hval 2 3 v2 rfl rfl) h2
  obtain ⟨a3, rfl, _, _, w3⟩ := open_int Try.underlying59 (hval 3 59 v3 rfl rfl) h3
  have z3 : 0 ≤ a3 ∧ a3 ≤ 65535 := by
    have e1 : IntKind.u16.min = 0 := rfl
    have e2 : IntKind.u16.max = 65535 := rfl
    simp only [Lit.wf, Bool.and_eq_true, decide_eq_true_eq] at w3
    omega
  obtain ⟨a4, rfl, _, _, w4⟩ := open_int Try.underlying59 (hval 4 59 v4 rfl rfl) h4
  have z4 : 0 ≤ a4 ∧ a4 ≤ 65535 := by
    have e1 : IntKind.u16.min = 0 := rfl
    have e2 : IntKind.u16.max = 65535 := rfl
    simp only [Lit.wf, Bool.and_eq_true, decide_eq_true_eq] at w4
    omega
  obtain ⟨a5, rfl, _, _, w5⟩ := open_int Try.underlying59 (hval 5 59 v5 rfl rfl) h5
  have z5 : 0 ≤ a5 ∧ a5 ≤ 65535 := by
    have e1 : IntKind.u16.min = 0 := rfl
    have e2 : IntKind.u16.max = 65535 := rfl
    simp only [Lit.wf, Bool.and_eq_true, decide_eq_true_eq] at w5
    omega
  clear hA0 hval0
  simp only [List.append_nil] at hW'
  refine (again_all a0 a1 a2 a3 a4 a5 W z1 z3 z4 z5).mono fun e W' ⟨he, hw⟩ => ?_
  subst he
  exact ⟨_, rfl, law_post laidK rfl (by kernel_rfl) (by kernel_rfl) Try.underlying4 (by kernel_rfl) hW' rfl hw⟩
set_option maxRecDepth 100000 in
/-- The statement. -/
theorem clockSetsAgain_said : Rows.ClockSetsAgainSaid :=
  OpenClaim.holds_of_wide 9 Try.f9 rfl rfl rfl rfl rfl rfl rfl ⟨rfl, rfl, rfl, rfl, rfl⟩ rfl rfl rfl rfl rfl (by kernel_rfl) Try.func9 (by kernel_rfl)
    (of_decide_eq_true (by kernel_rfl)) (by unfold Func.isWrapper; first | (rw [if_pos (by decide +kernel)]; kernel_rfl) | (rw [if_neg (by decide +kernel)]; exact ⟨rfl, rfl⟩))
    (fun os started H enc _ => clockSetsAgain_lifted os started H enc)
#print axioms clockSetsAgain_said
end Go.Proofs.Ytdohocbpjpnmeaa
