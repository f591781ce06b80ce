/-
  THE STATEMENT ClockReadsAsSpecified: Valid, and of valid clocks Offer and Read, do what the specification says; for every clock, processor and reading.
-/
import Derived.Test.YtdohocbpjpnmeaaCloI
import Derived.Deep.RegionHeld
namespace Go.Proofs.Ytdohocbpjpnmeaa
open Go.RowKit Go.ChangeShapes Go.WideShapes Go.ChangeAt

set_option maxRecDepth 100000 in
set_option maxHeartbeats 8000000 in
theorem reads_all (x : Clk) (c t : Int) (w : World) : Calls Try.prog 3 #[.agg x.cells.toArray, .int .i64 c, .int .i64 t] w fun e w' => e = .returned (.bool true) ∧ Later w w' := by
  have KS := Lib.hid fun w' => sanity_any w'
  have b3 := Blk.new w 25 x.cells.toArray x.cells rfl
  have lw := later1 w (.cells x.cells.toArray 25)
  obtain ⟨u0, hu⟩ : ∃ u0, w.alloc (.cells x.cells.toArray 25) = u0 := ⟨_, rfl⟩
  rw [hu] at b3 lw
  obtain ⟨b, hb⟩ := ok_dec x
  have KR := Lib.hid fun w' => rvalid_any x b w' hb
  have KL := Lib.hid fun w' => valid_any x b w' hb
  clear hb
  cases b with
  | false =>
    go_enter Try.func3, Try.ntmps3
    go_upto_region 1 with fail
    clear hu
    go_wp2_with (first
      | ((with_reducible refine wpList_load_blk (o := ⟨some 15, .load 25 (.tmp 3), _, _, _, none⟩) rfl _ _ rfl w.heap.size 25 x.cells _ ?_ ?_ Try.underlying25 rfl (clk_sz _) ?_); rfl; exact b3)
      | (go_at_call 10; (with_reducible refine (KR.out _).mono ?_); rintro e w1 ⟨rfl, l1⟩; replace b3 := b3.keep l1; replace lw := Later.trans_ lw l1)
      | ((with_reducible refine wpList_load_blk (o := ⟨some 17, .load 25 (.tmp 3), _, _, _, none⟩) rfl _ _ rfl w.heap.size 25 x.cells _ ?_ ?_ Try.underlying25 rfl (clk_sz _) ?_); rfl; exact b3)
      | (go_at_call 11; (with_reducible refine (KL.out _).mono ?_); rintro e w2 ⟨rfl, l1⟩; replace b3 := b3.keep l1; replace lw := Later.trans_ lw l1)
      | (go_at_call 12; (with_reducible refine (KS.out _).mono ?_); rintro e w3 ⟨rfl, l1⟩; replace b3 := b3.keep l1; replace lw := Later.trans_ lw l1))
    go_ret
    exact ⟨rfl, lw⟩
  | true =>
    have KO := Lib.hid fun w' => offer_any x c t w'
    have KE := Lib.hid fun w' => read_any x c w'
    have KP := Lib.hid fun w' => roffer_any x c t w'
    have KQ := Lib.hid fun w' => rread_any x c w'
    obtain ⟨y, hy⟩ : ∃ y, y = x.offerC c t := ⟨_, rfl⟩
    obtain ⟨ye, hye⟩ : ∃ y, y = x.offerE c t := ⟨_, rfl⟩
    obtain ⟨z, hz⟩ : ∃ y, y = x.readC c := ⟨_, rfl⟩
    obtain ⟨zv, hzv⟩ : ∃ y, y = x.readV c := ⟨_, rfl⟩
    obtain ⟨ze, hze⟩ : ∃ y, y = x.readE c := ⟨_, rfl⟩
    rw [← hy, ← hye] at KO KP
    rw [← hz, ← hzv, ← hze] at KE KQ
    have hqy := clk_same y
    have hqz := clk_same z
    clear hy hye hz hzv hze
    go_enter Try.func3, Try.ntmps3
    go_upto_region 1 with fail
    clear hu
    go_upto_region 9 with (first
      | ((with_reducible refine wpList_load_blk (o := ⟨some 15, .load 25 (.tmp 3), _, _, _, none⟩) rfl _ _ rfl w.heap.size 25 x.cells _ ?_ ?_ Try.underlying25 rfl (clk_sz _) ?_); rfl; exact b3)
      | (go_at_call 10; (with_reducible refine (KR.out _).mono ?_); rintro e w1 ⟨rfl, l1⟩; replace b3 := b3.keep l1; replace lw := Later.trans_ lw l1)
      | ((with_reducible refine wpList_load_blk (o := ⟨some 17, .load 25 (.tmp 3), _, _, _, none⟩) rfl _ _ rfl w.heap.size 25 x.cells _ ?_ ?_ Try.underlying25 rfl (clk_sz _) ?_); rfl; exact b3)
      | (go_at_call 11; (with_reducible refine (KL.out _).mono ?_); rintro e w2 ⟨rfl, l1⟩; replace b3 := b3.keep l1; replace lw := Later.trans_ lw l1)
      | ((with_reducible refine wpList_load_blk (o := ⟨some 25, .load 25 (.tmp 3), _, _, _, none⟩) rfl _ _ rfl w.heap.size 25 x.cells _ ?_ ?_ Try.underlying25 rfl (clk_sz _) ?_); rfl; exact b3)
      | (go_at_call 13; (with_reducible refine (KO.out _).mono ?_); rintro e w3 ⟨rfl, l1⟩; replace b3 := b3.keep l1; replace lw := Later.trans_ lw l1)
      | ((with_reducible refine wpList_store_abs (o := ⟨none, .store 25 (.tmp 8) (.tmp 29), _, _, _, none⟩) rfl _ _ _ rfl w3.heap.size 25 zK.cells y.cells ?_ ?_ ?_ ?_ ?_ ?_ ?_); rfl; rfl; exact (Blk.new _ _ _ _ rfl); exact clk_sz _; rfl; exact clk_one _; intro u3 b8 ob8; replace b3 := (b3.alloc (.cells zK.cells.toArray 25)).only ob8 (Nat.ne_of_lt b3.lt); replace lw := Below.only (lw.alloc lw.size (.cells zK.cells.toArray 25)) ob8 lw.size; clear ob8)
      | ((with_reducible refine wpList_load_blk (o := ⟨some 32, .load 25 (.tmp 3), _, _, _, none⟩) rfl _ _ rfl w.heap.size 25 x.cells _ ?_ ?_ Try.underlying25 rfl (clk_sz _) ?_); rfl; exact b3)
      | (go_at_call 14; (with_reducible refine (KE.out _).mono ?_); rintro e w4 ⟨rfl, l1⟩; replace b3 := b3.keep l1; replace b8 := b8.keep l1; replace lw := Later.trans_ lw l1)
      | ((with_reducible refine wpList_store_abs (o := ⟨none, .store 25 (.tmp 10) (.tmp 35), _, _, _, none⟩) rfl _ _ _ rfl w4.heap.size 25 zK.cells z.cells ?_ ?_ ?_ ?_ ?_ ?_ ?_); rfl; rfl; exact (Blk.new _ _ _ _ rfl); exact clk_sz _; rfl; exact clk_one _; intro u4 b10 ob10; replace b3 := (b3.alloc (.cells zK.cells.toArray 25)).only ob10 (Nat.ne_of_lt b3.lt); replace b8 := (b8.alloc (.cells zK.cells.toArray 25)).only ob10 (Nat.ne_of_lt b8.lt); replace lw := Below.only (lw.alloc lw.size (.cells zK.cells.toArray 25)) ob10 lw.size; clear ob10)
      | ((with_reducible refine wpList_load_blk (o := ⟨some 38, .load 25 (.tmp 3), _, _, _, none⟩) rfl _ _ rfl w.heap.size 25 x.cells _ ?_ ?_ Try.underlying25 rfl (clk_sz _) ?_); rfl; exact b3)
      | (go_at_call 15; (with_reducible refine (KP.out _).mono ?_); rintro e w5 ⟨rfl, l1⟩; replace b3 := b3.keep l1; replace b8 := b8.keep l1; replace b10 := b10.keep l1; replace lw := Later.trans_ lw l1)
      | ((with_reducible refine wpList_store_abs (o := ⟨none, .store 35 (.tmp 13) (.tmp 41), _, _, _, none⟩) rfl _ _ _ rfl w5.heap.size 35 (gotC zK 0 false 0) (gotC y 0 false ye) ?_ ?_ ?_ ?_ ?_ ?_ ?_); rfl; rfl; exact (Blk.new _ _ _ _ rfl); exact got_sz _ _ _ _; rfl; exact got_one _ _ _ _; intro u5 b13 ob13; replace b3 := (b3.alloc (.cells (gotC zK 0 false 0).toArray 35)).only ob13 (Nat.ne_of_lt b3.lt); replace b8 := (b8.alloc (.cells (gotC zK 0 false 0).toArray 35)).only ob13 (Nat.ne_of_lt b8.lt); replace b10 := (b10.alloc (.cells (gotC zK 0 false 0).toArray 35)).only ob13 (Nat.ne_of_lt b10.lt); replace lw := Below.only (lw.alloc lw.size (.cells (gotC zK 0 false 0).toArray 35)) ob13 lw.size; clear ob13))
    go_upto_region 10 with (first
      | ((with_reducible refine wpList_load_blk (o := ⟨some 42, .load 25 (.tmp 3), _, _, _, none⟩) rfl _ _ rfl w.heap.size 25 x.cells _ ?_ ?_ Try.underlying25 rfl (clk_sz _) ?_); rfl; exact b3)
      | (go_at_call 16; (with_reducible refine (KQ.out _).mono ?_); rintro e w6 ⟨rfl, l1⟩; replace b3 := b3.keep l1; replace b8 := b8.keep l1; replace b10 := b10.keep l1; replace b13 := b13.keep l1; replace lw := Later.trans_ lw l1)
      | ((with_reducible refine wpList_store_abs (o := ⟨none, .store 35 (.tmp 14) (.tmp 44), _, _, _, none⟩) rfl _ _ _ rfl w6.heap.size 35 (gotC zK 0 false 0) (gotC z zv false ze) ?_ ?_ ?_ ?_ ?_ ?_ ?_); rfl; rfl; exact (Blk.new _ _ _ _ rfl); exact got_sz _ _ _ _; rfl; exact got_one _ _ _ _; intro u6 b14 ob14; replace b3 := (b3.alloc (.cells (gotC zK 0 false 0).toArray 35)).only ob14 (Nat.ne_of_lt b3.lt); replace b8 := (b8.alloc (.cells (gotC zK 0 false 0).toArray 35)).only ob14 (Nat.ne_of_lt b8.lt); replace b10 := (b10.alloc (.cells (gotC zK 0 false 0).toArray 35)).only ob14 (Nat.ne_of_lt b10.lt); replace b13 := (b13.alloc (.cells (gotC zK 0 false 0).toArray 35)).only ob14 (Nat.ne_of_lt b13.lt); replace lw := Below.only (lw.alloc lw.size (.cells (gotC zK 0 false 0).toArray 35)) ob14 lw.size; clear ob14))
    clear b3
    go_wp2_with (first
      | (go_at_call 12; (with_reducible refine (KS.out _).mono ?_); rintro e w7 ⟨rfl, l1⟩; replace b8 := b8.keep l1; replace b10 := b10.keep l1; replace b13 := b13.keep l1; replace b14 := b14.keep l1; replace lw := Later.trans_ lw l1; have e1 := b13.cell (j := 15) rfl; have e2 := b14.cell (j := 13) rfl; have e3 := b14.cell (j := 15) rfl)
      | ((with_reducible refine wpList_load_g (o := ⟨some 47, .load 25 (.tmp 8), _, _, _, _⟩) _ _ rfl w3.heap.size 25 y.cells _ ?_ ?_ ?_ Try.underlying25 ?_ (clk_sz _) ?_); rfl; rfl; exact b8; rfl)
      | ((with_reducible refine wpList_load_atg (o := ⟨some 49, .load 25 (.tmp 48), _, _, _, _⟩) _ _ rfl w5.heap.size 0 13 35 (gotC y 0 false ye) y.cells _ ?_ ?_ ?_ (got_take _ _ _ _) Try.underlying25 ?_ (clk_sz _) ?_); rfl; rfl; exact b13; rfl)
      | ((with_reducible refine wpList_load_g (o := ⟨some 59, .load 25 (.tmp 10), _, _, _, _⟩) _ _ rfl w4.heap.size 25 z.cells _ ?_ ?_ ?_ Try.underlying25 ?_ (clk_sz _) ?_); rfl; rfl; exact b10; rfl)
      | ((with_reducible refine wpList_load_atg (o := ⟨some 61, .load 25 (.tmp 60), _, _, _, _⟩) _ _ rfl w6.heap.size 0 13 35 (gotC z zv false ze) z.cells _ ?_ ?_ ?_ (got_take _ _ _ _) Try.underlying25 ?_ (clk_sz _) ?_); rfl; rfl; exact b14; rfl))
    go_ret
    exact ⟨rfl, lw⟩

set_option maxRecDepth 100000 in
theorem clockReadsAsSpecified_lifted (os : Os) (started : os.Started) (H : Type) (enc : TypeId × Value → H) :
    ReturnsInHanded {} Try.checked os 3 .any (Rows.clockReadsAsSpecifiedSpec.pre6 enc Try.prog Try.f3 Rows.clockReadsAsSpecifiedRow.domain false) (Rows.clockReadsAsSpecifiedSpec.post enc Try.prog Try.f3 false true false false) := by
  refine returnsInHanded_of_change (C := Try.checked) ownK started (by kernel_rfl) Try.func3
    (ChangeSpec.witness6 (enc := enc) (C := Try.checked) false ⟨#[], #[.agg #[.int .i64 0, .bool false, .bool false, .bool false, .bool false, .int .i64 0, .int .i64 0, .int .i64 0, .int .i64 0, .int .i64 0, .int .i64 0, .int .i64 0, .int .i64 0], .int .i64 0, .int .i64 0], []⟩ 8 (by kernel_rfl) (by kernel_rfl) (by kernel_rfl) (by kernel_rfl)) ?_
  intro W base args ds gs before hval0 hW hcnd _
  have hval : ∀ (j : Nat) t v, Try.f3.params[j]? = some t → args[j]? = some v → Value.okWide Try.prog W .any base t v := hval0
  have hW' := hW
  obtain ⟨p, q, hA0, hV, rfl, hfz, hnd⟩ := hW
  have hA : DataW.TrodAll enc Try.prog W 0 (fun _ => true) true Try.f3.params.toList args.toList ds p := hA0
  rw [Try.params3] at hA hval
  obtain ⟨v0, vs0, d0, ds0, p0, q0, hargs, rfl, rfl, h0, r0⟩ := trodAll_cons hA
  obtain ⟨v1, vs1, d1, ds1, p1, q1, rfl, rfl, rfl, h1, r1⟩ := trodAll_cons r0
  obtain ⟨v2, vs2, d2, ds2, p2, q2, rfl, rfl, rfl, h2, r2⟩ := trodAll_cons r1
  obtain ⟨rfl, rfl, rfl⟩ := trodAll_nil r2
  obtain rfl : args = #[v0, v1, v2] := by cases args; simp_all
  obtain ⟨rfl, rfl⟩ := trodVars_none hV
  obtain ⟨a0, rfl, z0⟩ := clk_open (hval 0 25 v0 rfl rfl) h0
  obtain ⟨a1, rfl, z1⟩ := int_arg Try.underlying3 (hval 1 3 v1 rfl rfl) h1
  obtain ⟨a2, rfl, z2⟩ := int_arg Try.underlying3 (hval 2 3 v2 rfl rfl) h2
  clear hA0 hval0
  simp only [List.append_nil] at hW'
  refine (reads_all a0 a1 a2 W).mono fun e W' ⟨he, hw⟩ => ?_
  subst he
  exact ⟨_, rfl, law_post laidK rfl (by kernel_rfl) (by kernel_rfl) Try.underlying4 (by kernel_rfl) hW' rfl hw⟩
set_option maxRecDepth 100000 in
/-- The statement. -/
theorem clockReadsAsSpecified_said : Rows.ClockReadsAsSpecifiedSaid :=
  OpenClaim.holds_of_wide 3 Try.f3 rfl rfl rfl rfl rfl rfl rfl ⟨rfl, rfl, rfl, rfl, rfl⟩ rfl rfl rfl rfl rfl (by kernel_rfl) Try.func3 (by kernel_rfl)
    (of_decide_eq_true (by kernel_rfl)) (by unfold Func.isWrapper; first | (rw [if_pos (by decide +kernel)]; kernel_rfl) | (rw [if_neg (by decide +kernel)]; exact ⟨rfl, rfl⟩))
    (fun os started H enc _ => clockReadsAsSpecified_lifted os started H enc)
#print axioms clockReadsAsSpecified_said
end Go.Proofs.Ytdohocbpjpnmeaa
