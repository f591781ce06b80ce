/-
  THE STATEMENT TrapReturns: what a trap does, its return takes back, but for the registers that are set; for every processor and three words.
-/
import Derived.Test.YtkknobonpejgbaaTrapI
namespace Go.Proofs.Ytkknobonpejgbaa
open Go.RowKit Go.ChangeShapes Go.WideShapes Go.ChangeAt

theorem enter_ok {x : Cpu} {ca va ep : Int} (h : okC x.r0 x.c5 x.c7 x.c8 x.wt x.hl x.cn = true) : okC (x.enter ca va ep).r0 (x.enter ca va ep).c5 (x.enter ca va ep).c7 (x.enter ca va ep).c8 (x.enter ca va ep).wt (x.enter ca va ep).hl (x.enter ca va ep).cn = true := by
  obtain ⟨h0, _, h2, h3, h4, h5, _⟩ := okC_parts h
  exact okC_mk h0 (st_e _ _).2 h2 h3 h4 h5 rfl
theorem back_ok {x : Cpu} (h : okC x.r0 x.c5 x.c7 x.c8 x.wt x.hl x.cn = true) : okC x.back.r0 x.back.c5 x.back.c7 x.back.c8 x.back.wt x.back.hl x.back.cn = true := by
  obtain ⟨h0, _, h2, h3, h4, h5, h6⟩ := okC_parts h
  exact okC_mk h0 (sr_e _).2 h2 h3 h4 h5 h6
theorem enter_e (x : Cpu) (ca va ep : Int) : Tm.isE (x.enter ca va ep).c5 := (st_e _ _).1
theorem returns_is {x : Cpu} (ca va ep : Int) (hw : x.wt = false) : (x.enter ca va ep).back = { x with pc := ep, c3 := ca, c4 := va, c2 := ep, c5 := b32 (Tm.has x.c5 1) 1 + 2 } := by
  unfold Cpu.back Cpu.enter
  rw [st_4, st_2]
  obtain ⟨pc, r0, r1, r2, r3, r4, r5, r6, r7, r8, r9, r10, r11, r12, r13, r14, r15, c0, c1, c2, c3, c4, c5, c6, c7, c8, u, wt, hl, cn⟩ := x
  simp only at hw ⊢
  rw [hw]
theorem rvalid_is {x : Cpu} {b : Bool} (h : okC x.r0 x.c5 x.c7 x.c8 x.wt x.hl x.cn = b) (w : World) : Calls Try.prog 11 #[.agg x.cells.toArray] w fun e w' => e = .returned (.bool b) ∧ Later w w' := by
  have := rvalid_any x w
  rwa [h] at this
theorem valid_is {x : Cpu} {b : Bool} (h : okC x.r0 x.c5 x.c7 x.c8 x.wt x.hl x.cn = b) (w : World) : Calls Try.prog 10 #[.agg x.cells.toArray] w fun e w' => e = .returned (.bool b) ∧ Later w w' := by
  have := valid_any x w
  rwa [h] at this
set_option maxRecDepth 100000 in
set_option maxHeartbeats 4000000 in
theorem returns_all (x : Cpu) (ca va ep : Int) (w : World) (hx : x.wf) :
    Calls Try.prog 6 #[.agg x.cells.toArray, .int .u32 ca, .int .u32 va, .int .u32 ep] w fun e w' => e = .returned (.bool true) ∧ Later w w' := by
  have KS := Lib.hid fun w' => sanity_any w'
  have b4 := Blk.new w 26 x.cells.toArray x.cells rfl
  have lw := later1 w (.cells x.cells.toArray 26)
  cases hv : okC x.r0 x.c5 x.c7 x.c8 x.wt x.hl x.cn with
  | false =>
    have KV := Lib.hid fun w' => rvalid_is hv w'
    clear hv hx
    go_enter Try.func6, Try.ntmps6
    go_wp2_with (first
      | ((with_reducible refine wpList_load_blk (o := ⟨some 13, .load 26 (.tmp 4), _, _, _, none⟩) rfl _ _ rfl w.heap.size 26 x.cells _ ?_ ?_ Try.underlying26 rfl (cpu_sz _) ?_); rfl; exact b4)
      | (go_at_call 11; (with_reducible refine (KV.out _).mono ?_); rintro e w1 ⟨rfl, l1⟩; replace b4 := b4.keep l1; replace lw := Later.trans_ lw l1)
      | (go_at_call 14; (with_reducible refine (KS.out _).mono ?_); rintro e w2 ⟨rfl, l2⟩; replace b4 := b4.keep l2; replace lw := Later.trans_ lw l2))
    go_ret
    exact ⟨rfl, lw⟩
  | true =>
    have KV := Lib.hid fun w' => rvalid_is hv w'
    cases hw : x.wt with
    | true =>
      clear hv hx
      go_enter Try.func6, Try.ntmps6
      go_wp2_with (first
        | ((with_reducible refine wpList_load_blk (o := ⟨some 13, .load 26 (.tmp 4), _, _, _, none⟩) rfl _ _ rfl w.heap.size 26 x.cells _ ?_ ?_ Try.underlying26 rfl (cpu_sz _) ?_); rfl; exact b4)
        | (go_at_call 11; (with_reducible refine (KV.out _).mono ?_); rintro e w1 ⟨rfl, l1⟩; replace b4 := b4.keep l1; replace lw := Later.trans_ lw l1; have q1 : w1.cell? ⟨w.heap.size, 27, none⟩ = some (.bool true) := by rw [← hw]; exact b4.cell (j := 27) (v := .bool x.wt) rfl)
        | (go_at_call 14; (with_reducible refine (KS.out _).mono ?_); rintro e w2 ⟨rfl, l2⟩; replace b4 := b4.keep l2; replace lw := Later.trans_ lw l2))
      go_ret
      exact ⟨rfl, lw⟩
    | false =>
      have KE := Lib.hid fun w' => enter_any x ca va ep w' hx.c5
      have KR := Lib.hid fun w' => return_any (x.enter ca va ep) w' (enter_e _ _ _ _)
      have KD := Lib.hid fun w' => valid_is (x := x.enter ca va ep) (enter_ok hv) w'
      have KK := Lib.hid fun w' => valid_is (x := (x.enter ca va ep).back) (back_ok (enter_ok hv)) w'
      have hand := and1 hx.c5
      have hk0 := returns_is (x := x) ca va ep hw
      obtain ⟨s, hs⟩ : ∃ s, s = Tm.has x.c5 1 := ⟨_, rfl⟩
      rw [← hs] at hk0 hand
      have hor := or_12 s
      obtain ⟨d, hd⟩ : ∃ d, d = x.enter ca va ep := ⟨_, rfl⟩
      have hdn0 : d.cn = x.cn := by rw [hd]; rfl
      have hdr : d.regs = x.regs := by rw [hd]; rfl
      rw [← hd] at KE KR KD KK hk0
      obtain ⟨k, hk⟩ : ∃ k, k = d.back := ⟨_, rfl⟩
      rw [← hk] at KR KK hk0
      replace hk := Lib.hid hk0.symm
      have hdn := Lib.hid hdn0
      have heq := cpu_same k
      have hrq : ∀ w, (Op.equalIn 10000 23 (.agg d.regs.toArray) (.agg x.regs.toArray)).run Try.prog w = .ok true w := by rw [hdr]; exact regs_same x
      clear hs hd hk0 hdn0 hdr hv hx
      go_enter Try.func6, Try.ntmps6
      go_wp2_with (first
        | ((with_reducible refine wpList_load_blk (o := ⟨some 13, .load 26 (.tmp 4), _, _, _, none⟩) rfl _ _ rfl w.heap.size 26 x.cells _ ?_ ?_ Try.underlying26 rfl (cpu_sz _) ?_); rfl; exact b4)
        | (go_at_call 11; (with_reducible refine (KV.out _).mono ?_); rintro e w1 ⟨rfl, l1⟩; replace b4 := b4.keep l1; replace lw := Later.trans_ lw l1; have q1 : w1.cell? ⟨w.heap.size, 27, none⟩ = some (.bool false) := by rw [← hw]; exact b4.cell (j := 27) (v := .bool x.wt) rfl)
        | ((with_reducible refine wpList_load_blk (o := ⟨some 22, .load 26 (.tmp 4), _, _, _, none⟩) rfl _ _ rfl w.heap.size 26 x.cells _ ?_ ?_ Try.underlying26 rfl (cpu_sz _) ?_); rfl; exact b4; clear q1)
        | (go_at_call 17; (with_reducible refine (KE.out _).mono ?_); rintro e w2 ⟨rfl, l2⟩; replace b4 := b4.keep l2; replace lw := Later.trans_ lw l2)
        | ((with_reducible refine wpList_store_abs (o := ⟨none, .store 26 (.tmp 10) (.tmp 26), _, _, _, none⟩) rfl _ _ _ rfl w2.heap.size 26 zC.cells d.cells ?_ ?_ ?_ ?_ ?_ ?_ ?_); rfl; rfl; exact (Blk.new _ _ _ _ rfl); exact cpu_sz _; rfl; exact cpu_one _; intro v2 b10 o2; replace b4 := (b4.alloc (.cells zC.cells.toArray 26)).only o2 (Nat.ne_of_lt b4.lt); replace lw := Below.only (lw.alloc lw.size (.cells zC.cells.toArray 26)) o2 lw.size)
        | ((with_reducible refine wpList_load_blk (o := ⟨some 27, .load 26 (.tmp 10), _, _, _, none⟩) rfl _ _ rfl w2.heap.size 26 d.cells _ ?_ ?_ Try.underlying26 rfl (cpu_sz _) ?_); rfl; exact b10)
        | (go_at_call 19; (with_reducible refine (KR.out _).mono ?_); rintro e w3 ⟨rfl, l3⟩; replace b4 := b4.keep l3; replace b10 := b10.keep l3; replace lw := Later.trans_ lw l3)
        | ((with_reducible refine wpList_store_abs (o := ⟨none, .store 26 (.tmp 11) (.tmp 28), _, _, _, none⟩) rfl _ _ _ rfl w3.heap.size 26 zC.cells k.cells ?_ ?_ ?_ ?_ ?_ ?_ ?_); rfl; rfl; exact (Blk.new _ _ _ _ rfl); exact cpu_sz _; rfl; exact cpu_one _; intro v3 b11 o3; replace b4 := (b4.alloc (.cells zC.cells.toArray 26)).only o3 (Nat.ne_of_lt b4.lt); replace b10 := (b10.alloc (.cells zC.cells.toArray 26)).only o3 (Nat.ne_of_lt b10.lt); replace lw := Below.only (lw.alloc lw.size (.cells zC.cells.toArray 26)) o3 lw.size)
        | ((with_reducible refine wpList_load_blk (o := ⟨some 29, .load 26 (.tmp 4), _, _, _, none⟩) rfl _ _ rfl w.heap.size 26 x.cells _ ?_ ?_ Try.underlying26 rfl (cpu_sz _) ?_); rfl; exact b4)
        | ((with_reducible refine wpList_store_abs (o := ⟨none, .store 26 (.tmp 12) (.tmp 29), _, _, _, none⟩) rfl _ _ _ rfl v3.heap.size 26 zC.cells x.cells ?_ ?_ ?_ ?_ ?_ ?_ ?_); rfl; rfl; exact (Blk.new _ _ _ _ rfl); exact cpu_sz _; rfl; exact cpu_one _; have m4 := Nat.ne_of_lt b4.lt; have m10 := Nat.ne_of_lt b10.lt; have m11 := Nat.ne_of_lt b11.lt; have mw := lw.size; intro v4 b12 o4; replace b4 := (b4.alloc (.cells zC.cells.toArray 26)).only o4 (Nat.ne_of_lt b4.lt); replace b10 := (b10.alloc (.cells zC.cells.toArray 26)).only o4 (Nat.ne_of_lt b10.lt); replace b11 := (b11.alloc (.cells zC.cells.toArray 26)).only o4 (Nat.ne_of_lt b11.lt); replace lw := Below.only (lw.alloc lw.size (.cells zC.cells.toArray 26)) o4 lw.size; have e1 := b12.cell (j := 0) (v := .int .u32 x.pc) rfl; have f1 := b12.frz 0; have e2 := b12.cell (j := 20) (v := .int .u32 x.c3) rfl; have f2 := b12.frz 20; have e3 := b12.cell (j := 21) (v := .int .u32 x.c4) rfl; have f3 := b12.frz 21; have e4 := b12.cell (j := 19) (v := .int .u32 x.c2) rfl; have f4 := b12.frz 19; have e5 := b12.cell (j := 22) (v := .int .u32 x.c5) rfl; have f5 := b12.frz 22; have e9 := b4.cell (j := 22) (v := .int .u32 x.c5) rfl; have f9 := b4.frz 22)
        | (go_at_call 14; replace b12 : Blk _ v3.heap.size 26 k.cells := (by rw [← hk.out]; exact (((((b12.set 0 (.int .u32 ep)).set 20 (.int .u32 ca)).set 21 (.int .u32 va)).set 19 (.int .u32 ep)).set 22 (.int .u32 (b32 s 1 + 2)))); replace b4 := (((((b4.set_other ⟨v3.heap.size, 0, none⟩ (.int .u32 ep) m4).set_other ⟨v3.heap.size, 20, none⟩ (.int .u32 ca) m4).set_other ⟨v3.heap.size, 21, none⟩ (.int .u32 va) m4).set_other ⟨v3.heap.size, 19, none⟩ (.int .u32 ep) m4).set_other ⟨v3.heap.size, 22, none⟩ (.int .u32 (b32 s 1 + 2)) m4); replace b10 := (((((b10.set_other ⟨v3.heap.size, 0, none⟩ (.int .u32 ep) m10).set_other ⟨v3.heap.size, 20, none⟩ (.int .u32 ca) m10).set_other ⟨v3.heap.size, 21, none⟩ (.int .u32 va) m10).set_other ⟨v3.heap.size, 19, none⟩ (.int .u32 ep) m10).set_other ⟨v3.heap.size, 22, none⟩ (.int .u32 (b32 s 1 + 2)) m10); replace b11 := (((((b11.set_other ⟨v3.heap.size, 0, none⟩ (.int .u32 ep) m11).set_other ⟨v3.heap.size, 20, none⟩ (.int .u32 ca) m11).set_other ⟨v3.heap.size, 21, none⟩ (.int .u32 va) m11).set_other ⟨v3.heap.size, 19, none⟩ (.int .u32 ep) m11).set_other ⟨v3.heap.size, 22, none⟩ (.int .u32 (b32 s 1 + 2)) m11); replace lw := (((((lw.setCell (p := ⟨v3.heap.size, 0, none⟩) mw (.int .u32 ep)).setCell (p := ⟨v3.heap.size, 20, none⟩) mw (.int .u32 ca)).setCell (p := ⟨v3.heap.size, 21, none⟩) mw (.int .u32 va)).setCell (p := ⟨v3.heap.size, 19, none⟩) mw (.int .u32 ep)).setCell (p := ⟨v3.heap.size, 22, none⟩) mw (.int .u32 (b32 s 1 + 2))); clear e1 f1 e2 f2 e3 f3 e4 f4 e5 f5 e9 f9; (with_reducible refine (KS.out _).mono ?_); rintro e w5 ⟨rfl, l5⟩; replace b4 := b4.keep l5; replace b10 := b10.keep l5; replace b11 := b11.keep l5; replace b12 := b12.keep l5; replace lw := Later.trans_ lw l5)
        | ((with_reducible refine wpList_load_g (o := ⟨some 50, .load 26 (.tmp 11), _, _, _, _⟩) _ _ rfl w3.heap.size 26 k.cells _ ?_ ?_ ?_ Try.underlying26 ?_ (cpu_sz _) ?_); rfl; rfl; exact b11; rfl)
        | ((with_reducible refine wpList_load_g (o := ⟨some 51, .load 26 (.tmp 12), _, _, _, _⟩) _ _ rfl v3.heap.size 26 k.cells _ ?_ ?_ ?_ Try.underlying26 ?_ (cpu_sz _) ?_); rfl; rfl; exact b12; rfl)
        | ((with_reducible refine wpList_load_g (o := ⟨some 55, .load 26 (.tmp 10), _, _, _, _⟩) _ _ rfl w2.heap.size 26 d.cells _ ?_ ?_ ?_ Try.underlying26 ?_ (cpu_sz _) ?_); rfl; rfl; exact b10; rfl)
        | (go_at_call 10; (with_reducible refine (KD.out _).mono ?_); rintro e w6 ⟨rfl, l6⟩; replace b4 := b4.keep l6; replace b10 := b10.keep l6; replace b11 := b11.keep l6; replace b12 := b12.keep l6; replace lw := Later.trans_ lw l6)
        | ((with_reducible refine wpList_load_g (o := ⟨some 59, .load 26 (.tmp 11), _, _, _, _⟩) _ _ rfl w3.heap.size 26 k.cells _ ?_ ?_ ?_ Try.underlying26 ?_ (cpu_sz _) ?_); rfl; rfl; exact b11; rfl)
        | (go_at_call 10; (with_reducible refine (KK.out _).mono ?_); rintro e w7 ⟨rfl, l7⟩; replace b4 := b4.keep l7; replace b10 := b10.keep l7; replace b11 := b11.keep l7; replace b12 := b12.keep l7; replace lw := Later.trans_ lw l7; have q2 := b4.cell (j := 29) (v := .int .i64 x.cn) rfl; have q3 : w7.cell? ⟨w2.heap.size, 29, none⟩ = some (.int .i64 x.cn) := by rw [← hdn.out]; exact b10.cell (j := 29) (v := .int .i64 d.cn) rfl)
        | ((with_reducible refine wpList_load_atg (o := ⟨some 71, .load 23 (.tmp 70), _, _, _, _⟩) _ _ rfl w2.heap.size 1 16 26 d.cells d.regs _ ?_ ?_ ?_ rfl Try.underlying23 ?_ (regs_sz _) ?_); rfl; rfl; exact b10; rfl)
        | ((with_reducible refine wpList_load_atg (o := ⟨some 73, .load 23 (.tmp 72), _, _, _, _⟩) _ _ rfl w.heap.size 1 16 26 x.cells x.regs _ ?_ ?_ ?_ rfl Try.underlying23 ?_ (regs_sz _) ?_); rfl; rfl; exact b4; rfl))
      go_ret
      exact ⟨rfl, lw⟩

set_option maxRecDepth 100000 in
theorem trapReturns_lifted (os : Os) (started : os.Started) (H : Type) (enc : TypeId × Value → H) :
    ReturnsInHanded {} Try.checked os 6 .any (Rows.trapReturnsSpec.pre6 enc Try.prog Try.f6 Rows.trapReturnsRow.domain false) (Rows.trapReturnsSpec.post enc Try.prog Try.f6 false true false false) := by
  refine returnsInHanded_of_change (C := Try.checked) ownK started (by kernel_rfl) Try.func6
    (ChangeSpec.witness6 (enc := enc) (C := Try.checked) false ⟨#[], #[.agg #[.int .u32 0, .int .u32 0, .int .u32 0, .int .u32 0, .int .u32 0, .int .u32 0, .int .u32 0, .int .u32 0, .int .u32 0, .int .u32 0, .int .u32 0, .int .u32 0, .int .u32 0, .int .u32 0, .int .u32 0, .int .u32 0, .int .u32 0, .int .u32 0, .int .u32 0, .int .u32 0, .int .u32 0, .int .u32 0, .int .u32 0, .int .u32 0, .int .u32 0, .int .u32 0, .bool false, .bool false, .bool false, .int .i64 0], .int .u32 0, .int .u32 0, .int .u32 0], []⟩ 8 (by kernel_rfl) (by kernel_rfl) (by kernel_rfl) (by kernel_rfl)) ?_
  intro W base args ds gs before hval0 hW hcnd _
  have hval : ∀ (j : Nat) t v, Try.f6.params[j]? = some t → args[j]? = some v → Value.okWide Try.prog W .any base t v := hval0
  have hW' := hW
  obtain ⟨p, q, hA0, hV, rfl, hfz, hnd⟩ := hW
  have hA : DataW.TrodAll enc Try.prog W 0 (fun _ => true) true Try.f6.params.toList args.toList ds p := hA0
  rw [Try.params6] at hA hval
  obtain ⟨v0, vs0, d0, ds0, p0, q0, hargs, rfl, rfl, h0, r0⟩ := trodAll_cons hA
  obtain ⟨v1, vs1, d1, ds1, p1, q1, rfl, rfl, rfl, h1, r1⟩ := trodAll_cons r0
  obtain ⟨v2, vs2, d2, ds2, p2, q2, rfl, rfl, rfl, h2, r2⟩ := trodAll_cons r1
  obtain ⟨v3, vs3, d3, ds3, p3, q3, rfl, rfl, rfl, h3, r3⟩ := trodAll_cons r2
  obtain ⟨rfl, rfl, rfl⟩ := trodAll_nil r3
  obtain rfl : args = #[v0, v1, v2, v3] := by cases args; simp_all
  obtain ⟨rfl, rfl⟩ := trodVars_none hV
  obtain ⟨a0, rfl, z0⟩ := cpu_open (hval 0 26 v0 rfl rfl) h0
  obtain ⟨a1, rfl, y1⟩ := u32_arg Try.underlying22 (hval 1 22 v1 rfl rfl) h1
  have z1 : Tm.isE a1 := ⟨y1.1, by have := y1.2; omega⟩
  obtain ⟨a2, rfl, y2⟩ := u32_arg Try.underlying22 (hval 2 22 v2 rfl rfl) h2
  have z2 : Tm.isE a2 := ⟨y2.1, by have := y2.2; omega⟩
  obtain ⟨a3, rfl, y3⟩ := u32_arg Try.underlying22 (hval 3 22 v3 rfl rfl) h3
  have z3 : Tm.isE a3 := ⟨y3.1, by have := y3.2; omega⟩
  clear hA0 hval0
  simp only [List.append_nil] at hW'
  refine (returns_all a0 a1 a2 a3 W z0).mono fun e W' ⟨he, hw⟩ => ?_
  subst he
  exact ⟨_, rfl, law_post laidK rfl (by kernel_rfl) (by kernel_rfl) Try.underlying4 (by kernel_rfl) hW' rfl hw⟩
set_option maxRecDepth 100000 in
/-- The statement. -/
theorem trapReturns_said : Rows.TrapReturnsSaid :=
  OpenClaim.holds_of_wide 6 Try.f6 rfl rfl rfl rfl rfl rfl rfl ⟨rfl, rfl, rfl, rfl, rfl⟩ rfl rfl rfl rfl rfl (by kernel_rfl) Try.func6 (by kernel_rfl)
    (of_decide_eq_true (by kernel_rfl)) (by unfold Func.isWrapper; first | (rw [if_pos (by decide +kernel)]; kernel_rfl) | (rw [if_neg (by decide +kernel)]; exact ⟨rfl, rfl⟩))
    (fun os started H enc _ => trapReturns_lifted os started H enc)
#print axioms trapReturns_said
end Go.Proofs.Ytkknobonpejgbaa
