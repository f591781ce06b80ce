/-
  THE STATEMENT ClockPortsAsSpecified: of valid clocks Port does what the specification says; for every clock, processor, count and what is asked.
-/
import Derived.Test.YtdohocbpjpnmeaaCloI
import Derived.Deep.RegionHeld
namespace Go.Proofs.Ytdohocbpjpnmeaa
open Go.RowKit Go.ChangeShapes Go.WideShapes Go.ChangeAt

set_option maxRecDepth 100000 in
set_option maxHeartbeats 8000000 in
theorem ports_all (x : Clk) (c n : Int) (inn : Bool) (p v : Int) (w : World) (hv : 0 ≤ v ∧ v ≤ 4294967295) : Calls Try.prog 5 #[.agg x.cells.toArray, .int .i64 c, .int .i64 n, .agg #[.bool inn, .int .i64 p, .int .u32 v]] w fun e w' => e = .returned (.bool true) ∧ Later w w' := by
  have KS := Lib.hid fun w' => sanity_any w'
  have b3 := (Blk.new w 25 x.cells.toArray x.cells rfl).alloc (.cells (ioC inn p v).toArray 46)
  have b7 := Blk.new' (w.alloc (.cells x.cells.toArray 25)) (w.heap.size + 1) 46 (ioC inn p v).toArray (ioC inn p v) (by simp) rfl
  have lw := (later1 w (.cells x.cells.toArray 25)).alloc (by simp) (.cells (ioC inn p v).toArray 46)
  obtain ⟨u0, hu⟩ : ∃ u0, (w.alloc (.cells x.cells.toArray 25)).alloc (.cells (ioC inn p v).toArray 46) = u0 := ⟨_, rfl⟩
  rw [hu] at b3 b7 lw
  have hu2 : (w.alloc (.cells x.cells.toArray 25)).alloc (.cells #[.bool inn, .int .i64 p, .int .u32 v] 46) = u0 := hu
  obtain ⟨b, hb⟩ := ok_dec x
  have KR := Lib.hid fun w' => rvalid_any x b w' hb
  clear hb
  cases b with
  | false =>
    clear hv
    go_enter Try.func5, Try.ntmps5
    go_upto_region 1 with fail
    clear hu hu2
    go_wp2_with (first
      | ((with_reducible refine wpList_load_blk (o := ⟨some 14, .load 25 (.tmp 4), _, _, _, none⟩) rfl _ _ rfl w.heap.size 25 x.cells _ ?_ ?_ Try.underlying25 rfl (clk_sz _) ?_); rfl; exact b3)
      | (go_at_call 10; (with_reducible refine (KR.out _).mono ?_); rintro e w1 ⟨rfl, l1⟩; replace b3 := b3.keep l1; replace b7 := b7.keep l1; replace lw := Later.trans_ lw l1)
      | (go_at_call 12; (with_reducible refine (KS.out _).mono ?_); rintro e w3 ⟨rfl, l1⟩; replace b3 := b3.keep l1; replace b7 := b7.keep l1; replace lw := Later.trans_ lw l1))
    go_ret
    exact ⟨rfl, lw⟩
  | true =>
    have KO := Lib.hid fun w' => (show Calls Try.prog 23 #[.agg x.cells.toArray, .int .i64 c, .int .i64 n, .agg (ioC inn p v).toArray] w' fun e w'' => e = .returned (.tuple #[.agg (x.portC c n inn p v).cells.toArray, .int .u32 (x.portV c inn p), .int .i64 (x.portE c n inn p)]) ∧ Later w' w'' from port_any x c n inn p v w' hv)
    have KP := Lib.hid fun w' => (show Calls Try.prog 24 #[.agg x.cells.toArray, .int .i64 c, .int .i64 n, .agg (ioC inn p v).toArray] w' fun e w'' => e = .returned (.agg (gotC (x.portC c n inn p v) (x.portV c inn p) false (x.portE c n inn p)).toArray) ∧ Later w' w'' from rport_any x c n inn p v w' hv)
    obtain ⟨y, hy⟩ : ∃ y, y = x.portC c n inn p v := ⟨_, rfl⟩
    obtain ⟨yv, hyv⟩ : ∃ y, y = x.portV c inn p := ⟨_, rfl⟩
    obtain ⟨ye, hye⟩ : ∃ y, y = x.portE c n inn p := ⟨_, rfl⟩
    rw [← hy, ← hyv, ← hye] at KO KP
    have hqy := clk_same y
    clear hy hyv hye hv
    go_enter Try.func5, Try.ntmps5
    go_upto_region 1 with fail
    clear hu hu2
    go_upto_region 6 with (first
      | ((with_reducible refine wpList_load_blk (o := ⟨some 14, .load 25 (.tmp 4), _, _, _, none⟩) rfl _ _ rfl w.heap.size 25 x.cells _ ?_ ?_ Try.underlying25 rfl (clk_sz _) ?_); rfl; exact b3)
      | (go_at_call 10; (with_reducible refine (KR.out _).mono ?_); rintro e w1 ⟨rfl, l1⟩; replace b3 := b3.keep l1; replace b7 := b7.keep l1; replace lw := Later.trans_ lw l1)
      | ((with_reducible refine wpList_load_blk (o := ⟨some 20, .load 25 (.tmp 4), _, _, _, none⟩) rfl _ _ rfl w.heap.size 25 x.cells _ ?_ ?_ Try.underlying25 rfl (clk_sz _) ?_); rfl; exact b3)
      | ((with_reducible refine wpList_load_blk (o := ⟨some 23, .load 46 (.tmp 7), _, _, _, none⟩) rfl _ _ rfl (w.heap.size + 1) 46 (ioC inn p v) _ ?_ ?_ Try.underlying46 rfl (io_sz _ _ _) ?_); rfl; exact b7)
      | (go_at_call 23; (with_reducible refine (KO.out _).mono ?_); rintro e w3 ⟨rfl, l1⟩; replace b3 := b3.keep l1; replace b7 := b7.keep l1; replace lw := Later.trans_ lw l1)
      | ((with_reducible refine wpList_store_abs (o := ⟨none, .store 25 (.tmp 10) (.tmp 25), _, _, _, none⟩) rfl _ _ _ rfl w3.heap.size 25 zK.cells y.cells ?_ ?_ ?_ ?_ ?_ ?_ ?_); rfl; rfl; exact (Blk.new _ _ _ _ rfl); exact clk_sz _; rfl; exact clk_one _; intro u3 b8 ob8; replace b3 := (b3.alloc (.cells zK.cells.toArray 25)).only ob8 (Nat.ne_of_lt b3.lt); replace b7 := (b7.alloc (.cells zK.cells.toArray 25)).only ob8 (Nat.ne_of_lt b7.lt); replace lw := Below.only (lw.alloc lw.size (.cells zK.cells.toArray 25)) ob8 lw.size; clear ob8)
      | ((with_reducible refine wpList_load_blk (o := ⟨some 28, .load 25 (.tmp 4), _, _, _, none⟩) rfl _ _ rfl w.heap.size 25 x.cells _ ?_ ?_ Try.underlying25 rfl (clk_sz _) ?_); rfl; exact b3)
      | ((with_reducible refine wpList_load_blk (o := ⟨some 31, .load 46 (.tmp 7), _, _, _, none⟩) rfl _ _ rfl (w.heap.size + 1) 46 (ioC inn p v) _ ?_ ?_ Try.underlying46 rfl (io_sz _ _ _) ?_); rfl; exact b7)
      | (go_at_call 24; (with_reducible refine (KP.out _).mono ?_); rintro e w5 ⟨rfl, l1⟩; replace b3 := b3.keep l1; replace b7 := b7.keep l1; replace b8 := b8.keep l1; replace lw := Later.trans_ lw l1)
      | ((with_reducible refine wpList_store_abs (o := ⟨none, .store 35 (.tmp 13) (.tmp 32), _, _, _, none⟩) rfl _ _ _ rfl w5.heap.size 35 (gotC zK 0 false 0) (gotC y yv false ye) ?_ ?_ ?_ ?_ ?_ ?_ ?_); rfl; rfl; exact (Blk.new _ _ _ _ rfl); exact got_sz _ _ _ _; rfl; exact got_one _ _ _ _; intro u5 b13 ob13; replace b3 := (b3.alloc (.cells (gotC zK 0 false 0).toArray 35)).only ob13 (Nat.ne_of_lt b3.lt); replace b7 := (b7.alloc (.cells (gotC zK 0 false 0).toArray 35)).only ob13 (Nat.ne_of_lt b7.lt); replace b8 := (b8.alloc (.cells (gotC zK 0 false 0).toArray 35)).only ob13 (Nat.ne_of_lt b8.lt); replace lw := Below.only (lw.alloc lw.size (.cells (gotC zK 0 false 0).toArray 35)) ob13 lw.size; clear ob13))
    clear b3 b7
    go_wp2_with (first
      | (go_at_call 12; (with_reducible refine (KS.out _).mono ?_); rintro e w7 ⟨rfl, l1⟩; replace b8 := b8.keep l1; replace b13 := b13.keep l1; replace lw := Later.trans_ lw l1; have e1 := b13.cell (j := 13) rfl; have e3 := b13.cell (j := 15) rfl)
      | ((with_reducible refine wpList_load_g (o := ⟨some 35, .load 25 (.tmp 10), _, _, _, _⟩) _ _ rfl w3.heap.size 25 y.cells _ ?_ ?_ ?_ Try.underlying25 ?_ (clk_sz _) ?_); rfl; rfl; exact b8; rfl)
      | ((with_reducible refine wpList_load_atg (o := ⟨some 37, .load 25 (.tmp 36), _, _, _, _⟩) _ _ rfl w5.heap.size 0 13 35 (gotC y yv false ye) y.cells _ ?_ ?_ ?_ (got_take _ _ _ _) Try.underlying25 ?_ (clk_sz _) ?_); rfl; rfl; exact b13; rfl))
    go_ret
    exact ⟨rfl, lw⟩

set_option maxRecDepth 100000 in
theorem clockPortsAsSpecified_lifted (os : Os) (started : os.Started) (H : Type) (enc : TypeId × Value → H) :
    ReturnsInHanded {} Try.checked os 5 .any (Rows.clockPortsAsSpecifiedSpec.pre6 enc Try.prog Try.f5 Rows.clockPortsAsSpecifiedRow.domain false) (Rows.clockPortsAsSpecifiedSpec.post enc Try.prog Try.f5 false true false false) := by
  refine returnsInHanded_of_change (C := Try.checked) ownK started (by kernel_rfl) Try.func5
    (ChangeSpec.witness6 (enc := enc) (C := Try.checked) false ⟨#[], #[.agg #[.int .i64 0, .bool false, .bool false, .bool false, .bool false, .int .i64 0, .int .i64 0, .int .i64 0, .int .i64 0, .int .i64 0, .int .i64 0, .int .i64 0, .int .i64 0], .int .i64 0, .int .i64 0, .agg #[.bool false, .int .i64 0, .int .u32 0]], []⟩ 8 (by kernel_rfl) (by kernel_rfl) (by kernel_rfl) (by kernel_rfl)) ?_
  intro W base args ds gs before hval0 hW hcnd _
  have hval : ∀ (j : Nat) t v, Try.f5.params[j]? = some t → args[j]? = some v → Value.okWide Try.prog W .any base t v := hval0
  have hW' := hW
  obtain ⟨p, q, hA0, hV, rfl, hfz, hnd⟩ := hW
  have hA : DataW.TrodAll enc Try.prog W 0 (fun _ => true) true Try.f5.params.toList args.toList ds p := hA0
  rw [Try.params5] at hA hval
  obtain ⟨v0, vs0, d0, ds0, p0, q0, hargs, rfl, rfl, h0, r0⟩ := trodAll_cons hA
  obtain ⟨v1, vs1, d1, ds1, p1, q1, rfl, rfl, rfl, h1, r1⟩ := trodAll_cons r0
  obtain ⟨v2, vs2, d2, ds2, p2, q2, rfl, rfl, rfl, h2, r2⟩ := trodAll_cons r1
  obtain ⟨v3, vs3, d3, ds3, p3, q3, rfl, rfl, rfl, h3, r3⟩ := trodAll_cons r2
  obtain ⟨rfl, rfl, rfl⟩ := trodAll_nil r3
  obtain rfl : args = #[v0, v1, v2, v3] := by cases args; simp_all
  obtain ⟨rfl, rfl⟩ := trodVars_none hV
  obtain ⟨a0, rfl, z0⟩ := clk_open (hval 0 25 v0 rfl rfl) h0
  obtain ⟨a1, rfl, z1⟩ := int_arg Try.underlying3 (hval 1 3 v1 rfl rfl) h1
  obtain ⟨a2, rfl, z2⟩ := int_arg Try.underlying3 (hval 2 3 v2 rfl rfl) h2
  obtain ⟨i3, p3_, u3, rfl, z3⟩ := io_open (hval 3 46 v3 rfl rfl) h3
  clear hA0 hval0
  simp only [List.append_nil] at hW'
  refine (ports_all a0 a1 a2 i3 p3_ u3 W (by have := z3.2; unfold Tm.isE at this; omega)).mono fun e W' ⟨he, hw⟩ => ?_
  subst he
  exact ⟨_, rfl, law_post laidK rfl (by kernel_rfl) (by kernel_rfl) Try.underlying4 (by kernel_rfl) hW' rfl hw⟩
set_option maxRecDepth 100000 in
/-- The statement. -/
theorem clockPortsAsSpecified_said : Rows.ClockPortsAsSpecifiedSaid :=
  OpenClaim.holds_of_wide 5 Try.f5 rfl rfl rfl rfl rfl rfl rfl ⟨rfl, rfl, rfl, rfl, rfl⟩ rfl rfl rfl rfl rfl (by kernel_rfl) Try.func5 (by kernel_rfl)
    (of_decide_eq_true (by kernel_rfl)) (by unfold Func.isWrapper; first | (rw [if_pos (by decide +kernel)]; kernel_rfl) | (rw [if_neg (by decide +kernel)]; exact ⟨rfl, rfl⟩))
    (fun os started H enc _ => clockPortsAsSpecified_lifted os started H enc)
#print axioms clockPortsAsSpecified_said
end Go.Proofs.Ytdohocbpjpnmeaa
