/-
  THE STATEMENT TrapRegistersAsSpecified: Read and Write are as the document says; for every processor, number and word.
-/
import Derived.Test.YtkknobonpejgbaaTrapZ2
namespace Go.Proofs.Ytkknobonpejgbaa
open Go.RowKit Go.ChangeShapes Go.WideShapes Go.ChangeAt

set_option maxRecDepth 100000 in
theorem regs_bad (x : Cpu) (n v : Int) (w : World) (hv : okC x.r0 x.c5 x.c7 x.c8 x.wt x.hl x.cn = false) :
    Calls Try.prog 4 #[.agg x.cells.toArray, .int .i64 n, .int .u32 v] w fun e w' => e = .returned (.bool true) ∧ Later w w' := by
  have KS := Lib.hid fun w' => sanity_any w'
  have b4 := Blk.new w 26 x.cells.toArray x.cells rfl
  have lw := later1 w (.cells x.cells.toArray 26)
  have KV := Lib.hid fun w' => rvalid_is hv w'
  clear hv
  go_enter Try.func4, Try.ntmps4
  go_wp2_with (first
    | ((with_reducible refine wpList_load_blk (o := ⟨some 14, .load 26 (.tmp 3), _, _, _, none⟩) rfl _ _ rfl w.heap.size 26 x.cells _ ?_ ?_ Try.underlying26 rfl (cpu_sz _) ?_); rfl; exact b4)
    | (go_at_call 11; (with_reducible refine (KV.out _).mono ?_); rintro e w1 ⟨rfl, l1⟩; replace b4 := b4.keep l1; replace lw := Later.trans_ lw l1)
    | (go_at_call 14; (with_reducible refine (KS.out _).mono ?_); rintro e w2 ⟨rfl, l2⟩; replace b4 := b4.keep l2; replace lw := Later.trans_ lw l2))
  go_ret
  exact ⟨rfl, lw⟩
set_option maxRecDepth 100000 in
set_option maxHeartbeats 4000000 in
theorem regs_all (x : Cpu) (n v : Int) (w : World) (hz : Tm.isE v) :
    Calls Try.prog 4 #[.agg x.cells.toArray, .int .i64 n, .int .u32 v] w fun e w' => e = .returned (.bool true) ∧ Later w w' := by
  cases hv : okC x.r0 x.c5 x.c7 x.c8 x.wt x.hl x.cn with
  | false => exact regs_bad x n v w hv
  | true =>
    have KS := Lib.hid fun w' => sanity_any w'
    have b4 := Blk.new w 26 x.cells.toArray x.cells rfl
    have lw := later1 w (.cells x.cells.toArray 26)
    have KV := Lib.hid fun w' => rvalid_is hv w'
    have K1 := Lib.hid fun w' => read_any x n v w' hz
    have K2 := Lib.hid fun w' => write_any x n v w' hz
    have K3 := Lib.hid fun w' => rread_any x n v w' hz
    have K4 := Lib.hid fun w' => rwrite_any x n v w' hz
    generalize x.put n v = y at K2 K4
    generalize x.ctl n v = a at K1 K3
    generalize errR n = e1 at K1 K3
    generalize errW n = e2 at K2 K4
    have heq := cpu_same y
    clear hv hz
    go_enter Try.func4, Try.ntmps4
    go_wp2_with (first
      | ((with_reducible refine wpList_load_blk (o := ⟨some 14, .load 26 (.tmp 3), _, _, _, none⟩) rfl _ _ rfl w.heap.size 26 x.cells _ ?_ ?_ Try.underlying26 rfl (cpu_sz _) ?_); rfl; exact b4)
      | (go_at_call 11; (with_reducible refine (KV.out _).mono ?_); rintro e w1 ⟨rfl, l1⟩; replace b4 := b4.keep l1; replace lw := Later.trans_ lw l1)
      | ((with_reducible refine wpList_load_blk (o := ⟨some 20, .load 26 (.tmp 3), _, _, _, none⟩) rfl _ _ rfl w.heap.size 26 x.cells _ ?_ ?_ Try.underlying26 rfl (cpu_sz _) ?_); rfl; exact b4)
      | (go_at_call 23; (with_reducible refine (K1.out _).mono ?_); rintro e w2 ⟨rfl, l2⟩; replace b4 := b4.keep l2; replace lw := Later.trans_ lw l2)
      | ((with_reducible refine wpList_load_blk (o := ⟨some 27, .load 26 (.tmp 3), _, _, _, none⟩) rfl _ _ rfl w.heap.size 26 x.cells _ ?_ ?_ Try.underlying26 rfl (cpu_sz _) ?_); rfl; exact b4)
      | (go_at_call 24; (with_reducible refine (K2.out _).mono ?_); rintro e w3 ⟨rfl, l3⟩; replace b4 := b4.keep l3; replace lw := Later.trans_ lw l3)
      | ((with_reducible refine wpList_store_abs (o := ⟨none, .store 26 (.tmp 10) (.tmp 31), _, _, _, none⟩) rfl _ _ _ rfl w3.heap.size 26 zC.cells y.cells ?_ ?_ ?_ ?_ ?_ ?_ ?_); rfl; rfl; exact (Blk.new _ _ _ _ rfl); exact cpu_sz _; rfl; exact cpu_one _; intro v3 b10 o3; replace b4 := (b4.alloc (.cells zC.cells.toArray 26)).only o3 (Nat.ne_of_lt b4.lt); replace lw := Below.only (lw.alloc lw.size (.cells zC.cells.toArray 26)) o3 lw.size)
      | ((with_reducible refine wpList_load_blk (o := ⟨some 33, .load 26 (.tmp 3), _, _, _, none⟩) rfl _ _ rfl w.heap.size 26 x.cells _ ?_ ?_ Try.underlying26 rfl (cpu_sz _) ?_); rfl; exact b4)
      | (go_at_call 25; (with_reducible refine (K3.out _).mono ?_); rintro e w4 ⟨rfl, l4⟩; replace b4 := b4.keep l4; replace b10 := b10.keep l4; replace lw := Later.trans_ lw l4)
      | ((with_reducible refine wpList_store_abs (o := ⟨none, .store 45 (.tmp 12) (.tmp 36), _, _, _, none⟩) rfl _ _ _ rfl w4.heap.size 45 (gotC 0 zC 0) (gotC a zC e1) ?_ ?_ ?_ ?_ ?_ ?_ ?_); rfl; rfl; exact (Blk.new _ _ _ _ rfl); exact got_sz _ _ _; rfl; exact got_one _ _ _; intro v4 b12 o4; replace b4 := (b4.alloc (.cells (gotC 0 zC 0).toArray 45)).only o4 (Nat.ne_of_lt b4.lt); replace b10 := (b10.alloc (.cells (gotC 0 zC 0).toArray 45)).only o4 (Nat.ne_of_lt b10.lt); replace lw := Below.only (lw.alloc lw.size (.cells (gotC 0 zC 0).toArray 45)) o4 lw.size)
      | ((with_reducible refine wpList_load_blk (o := ⟨some 37, .load 26 (.tmp 3), _, _, _, none⟩) rfl _ _ rfl w.heap.size 26 x.cells _ ?_ ?_ Try.underlying26 rfl (cpu_sz _) ?_); rfl; exact b4)
      | (go_at_call 26; (with_reducible refine (K4.out _).mono ?_); rintro e w5 ⟨rfl, l5⟩; replace b4 := b4.keep l5; replace b10 := b10.keep l5; replace b12 := b12.keep l5; replace lw := Later.trans_ lw l5)
      | ((with_reducible refine wpList_store_abs (o := ⟨none, .store 45 (.tmp 13) (.tmp 40), _, _, _, none⟩) rfl _ _ _ rfl w5.heap.size 45 (gotC 0 zC 0) (gotC 0 y e2) ?_ ?_ ?_ ?_ ?_ ?_ ?_); rfl; rfl; exact (Blk.new _ _ _ _ rfl); exact got_sz _ _ _; rfl; exact got_one _ _ _; intro v5 b13 o5; replace b4 := (b4.alloc (.cells (gotC 0 zC 0).toArray 45)).only o5 (Nat.ne_of_lt b4.lt); replace b10 := (b10.alloc (.cells (gotC 0 zC 0).toArray 45)).only o5 (Nat.ne_of_lt b10.lt); replace b12 := (b12.alloc (.cells (gotC 0 zC 0).toArray 45)).only o5 (Nat.ne_of_lt b12.lt); replace lw := Below.only (lw.alloc lw.size (.cells (gotC 0 zC 0).toArray 45)) o5 lw.size)
      | (go_at_call 14; (with_reducible refine (KS.out _).mono ?_); rintro e w6 ⟨rfl, l6⟩; replace b4 := b4.keep l6; replace b10 := b10.keep l6; replace b12 := b12.keep l6; replace b13 := b13.keep l6; replace lw := Later.trans_ lw l6; have q1 := b12.cell (j := 0) (v := .int .u32 a) rfl; have q2 := b12.cell (j := 31) (v := .int .i64 e1) rfl; have q3 := b13.cell (j := 31) (v := .int .i64 e2) rfl)
      | ((with_reducible refine wpList_load_g (o := ⟨some 55, .load 26 (.tmp 10), _, _, _, _⟩) _ _ rfl w3.heap.size 26 y.cells _ ?_ ?_ ?_ Try.underlying26 ?_ (cpu_sz _) ?_); rfl; rfl; exact b10; rfl)
      | ((with_reducible refine wpList_load_atg (o := ⟨some 57, .load 26 (.tmp 56), _, _, _, _⟩) _ _ rfl w5.heap.size 1 30 45 (gotC 0 y e2) y.cells _ ?_ ?_ ?_ rfl Try.underlying26 ?_ (cpu_sz _) ?_); rfl; rfl; exact b13; rfl))
    go_ret
    exact ⟨rfl, lw⟩

set_option maxRecDepth 100000 in
theorem trapRegistersAsSpecified_lifted (os : Os) (started : os.Started) (H : Type) (enc : TypeId × Value → H) :
    ReturnsInHanded {} Try.checked os 4 .any (Rows.trapRegistersAsSpecifiedSpec.pre6 enc Try.prog Try.f4 Rows.trapRegistersAsSpecifiedRow.domain false) (Rows.trapRegistersAsSpecifiedSpec.post enc Try.prog Try.f4 false true false false) := by
  refine returnsInHanded_of_change (C := Try.checked) ownK started (by kernel_rfl) Try.func4
    (ChangeSpec.witness6 (enc := enc) (C := Try.checked) false ⟨#[], #[.agg #[.int .u32 0, .int .u32 0, .int .u32 0, .int .u32 0, .int .u32 0, .int .u32 0, .int .u32 0, .int .u32 0, .int .u32 0, .int .u32 0, .int .u32 0, .int .u32 0, .int .u32 0, .int .u32 0, .int .u32 0, .int .u32 0, .int .u32 0, .int .u32 0, .int .u32 0, .int .u32 0, .int .u32 0, .int .u32 0, .int .u32 0, .int .u32 0, .int .u32 0, .int .u32 0, .bool false, .bool false, .bool false, .int .i64 0], .int .i64 0, .int .u32 0], []⟩ 8 (by kernel_rfl) (by kernel_rfl) (by kernel_rfl) (by kernel_rfl)) ?_
  intro W base args ds gs before hval0 hW hcnd _
  have hval : ∀ (j : Nat) t v, Try.f4.params[j]? = some t → args[j]? = some v → Value.okWide Try.prog W .any base t v := hval0
  have hW' := hW
  obtain ⟨p, q, hA0, hV, rfl, hfz, hnd⟩ := hW
  have hA : DataW.TrodAll enc Try.prog W 0 (fun _ => true) true Try.f4.params.toList args.toList ds p := hA0
  rw [Try.params4] at hA hval
  obtain ⟨v0, vs0, d0, ds0, p0, q0, hargs, rfl, rfl, h0, r0⟩ := trodAll_cons hA
  obtain ⟨v1, vs1, d1, ds1, p1, q1, rfl, rfl, rfl, h1, r1⟩ := trodAll_cons r0
  obtain ⟨v2, vs2, d2, ds2, p2, q2, rfl, rfl, rfl, h2, r2⟩ := trodAll_cons r1
  obtain ⟨rfl, rfl, rfl⟩ := trodAll_nil r2
  obtain rfl : args = #[v0, v1, v2] := by cases args; simp_all
  obtain ⟨rfl, rfl⟩ := trodVars_none hV
  obtain ⟨a0, rfl, z0⟩ := cpu_open (hval 0 26 v0 rfl rfl) h0
  obtain ⟨a1, rfl, z1⟩ := int_arg Try.underlying3 (hval 1 3 v1 rfl rfl) h1
  obtain ⟨a2, rfl, y2⟩ := u32_arg Try.underlying22 (hval 2 22 v2 rfl rfl) h2
  have z2 : Tm.isE a2 := ⟨y2.1, by have := y2.2; omega⟩
  clear hA0 hval0
  simp only [List.append_nil] at hW'
  refine (regs_all a0 a1 a2 W z2).mono fun e W' ⟨he, hw⟩ => ?_
  subst he
  exact ⟨_, rfl, law_post laidK rfl (by kernel_rfl) (by kernel_rfl) Try.underlying4 (by kernel_rfl) hW' rfl hw⟩
set_option maxRecDepth 100000 in
/-- The statement. -/
theorem trapRegistersAsSpecified_said : Rows.TrapRegistersAsSpecifiedSaid :=
  OpenClaim.holds_of_wide 4 Try.f4 rfl rfl rfl rfl rfl rfl rfl ⟨rfl, rfl, rfl, rfl, rfl⟩ rfl rfl rfl rfl rfl (by kernel_rfl) Try.func4 (by kernel_rfl)
    (of_decide_eq_true (by kernel_rfl)) (by unfold Func.isWrapper; first | (rw [if_pos (by decide +kernel)]; kernel_rfl) | (rw [if_neg (by decide +kernel)]; exact ⟨rfl, rfl⟩))
    (fun os started H enc _ => trapRegistersAsSpecified_lifted os started H enc)
#print axioms trapRegistersAsSpecified_said
end Go.Proofs.Ytkknobonpejgbaa
