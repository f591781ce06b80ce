/-
  THE STATEMENT CoreComputes: where it asks nothing.
-/
import Derived.Test.YtbhhhpglljkcpaaGreatDoorWza
namespace Go.Proofs.YtbhhhpglljkcpaaGreatDoor
open Go.RowKit Go.ChangeShapes Go.WideShapes Go.ChangeAt

set_option maxRecDepth 100000 in
set_option maxHeartbeats 16000000 in
theorem comp_r (x : Cpu) (A : Option Addr) (n c : Nat) (b : Wm.Bs) (i : Im.I) (w : World) (_hrv : x.Rv) (_hc0 : 0 ≤ x.c0 ∧ x.c0 ≤ 4294967295) (_hpcr : 0 ≤ x.pc ∧ x.pc ≤ 4294967295) (_hc5 : Tm.isE x.c5) (_hs : Sl w 128 A n (U b)) (_hb : Wm.isBs b) (tab : Tab w) (hS : ∀ w', Tab w' → Calls Tryz.prog 11 #[] w' fun e w'' => e = .returned (.bool true) ∧ Later w' w'') (hR : RightB x n = false) :
    Calls Tryz.prog 9 #[.agg x.cells.toArray, .agg #[.slice A n c], .agg #[.int .i64 i.op, .int .i64 i.a, .int .i64 i.b, .int .i64 i.c, .int .i64 i.imm]] w fun e w' => e = .returned (.bool true) ∧ Later w w' := by
  have KS := Lib.hid fun w' (l : Later w w') => hS w' (tab.keep l)
  have KR := Lib.hid fun w' => cright_any x A n c w'
  have KI := Lib.hid fun w' => refRight_any i w'
  have KE := Lib.hid fun w' => refEncode_any i w'
  have b3 := ((Blk.new w 26 x.cells.toArray x.cells rfl).alloc (.cells #[.slice A n c] 29)).alloc (.cells #[.int .i64 i.op, .int .i64 i.a, .int .i64 i.b, .int .i64 i.c, .int .i64 i.imm] 70)
  have b4 := (Blk.new' (w.alloc (.cells x.cells.toArray 26)) (w.heap.size + 1) 29 #[.slice A n c] [.slice A n c] (by simp) rfl).alloc (.cells #[.int .i64 i.op, .int .i64 i.a, .int .i64 i.b, .int .i64 i.c, .int .i64 i.imm] 70)
  have b5 := Blk.new' ((w.alloc (.cells x.cells.toArray 26)).alloc (.cells #[.slice A n c] 29)) (w.heap.size + 1 + 1) 70 #[.int .i64 i.op, .int .i64 i.a, .int .i64 i.b, .int .i64 i.c, .int .i64 i.imm] [.int .i64 i.op, .int .i64 i.a, .int .i64 i.b, .int .i64 i.c, .int .i64 i.imm] (by simp) rfl
  have lw := ((later1 w (.cells x.cells.toArray 26)).alloc (by simp) (.cells #[.slice A n c] 29)).alloc (by simp; omega) (.cells #[.int .i64 i.op, .int .i64 i.a, .int .i64 i.b, .int .i64 i.c, .int .i64 i.imm] 70)
  obtain ⟨u0, hu⟩ : ∃ u0, ((w.alloc (.cells x.cells.toArray 26)).alloc (.cells #[.slice A n c] 29)).alloc (.cells #[.int .i64 i.op, .int .i64 i.a, .int .i64 i.b, .int .i64 i.c, .int .i64 i.imm] 70) = u0 := ⟨_, rfl⟩
  rw [hu] at b3 b4 b5 lw
  have eo := b5.cell (j := 0) (v := .int .i64 i.op) rfl
  rw [hR] at KR
  clear hS tab _hs _hb _hrv _hc0 _hpcr _hc5 hR
  by_cases o1 : 1 ≤ i.op
  · have p1' : decide (1 ≤ i.op) = true := decide_eq_true o1
    go_enter Tryz.func9, Tryz.ntmps9
    go_upto_region 1 with fail
    clear hu
    go_wp2_with (first
      | ((with_reducible refine wpList_load_blk (o := ⟨some 22, .load 26 (.tmp 3), _, _, _, none⟩) rfl _ _ rfl w.heap.size 26 x.cells _ ?_ ?_ Tryz.underlying26 rfl (cpu_sz _) ?_); rfl; exact b3)
      | ((with_reducible refine wpList_load_blk (o := ⟨some 23, .load 29 (.tmp 4), _, _, _, none⟩) rfl _ _ rfl (w.heap.size + 1) 29 [.slice A n c] _ ?_ ?_ Tryz.underlying29 rfl mem_sz ?_); rfl; exact b4)
      | (go_at_call 10; clear eo; (with_reducible refine (KR.out _).mono ?_); rintro e w1 ⟨rfl, l1⟩; replace b3 := b3.keep l1; replace b4 := b4.keep l1; replace b5 := b5.keep l1; replace lw := Later.trans_ lw l1; have e0 := b3.cell (j := 0) (v := .int .u32 x.pc) rfl; have e17 := b3.cell (j := 17) (v := .int .u32 x.c0) rfl; have e27 := b3.cell (j := 27) (v := .bool x.wt) rfl; have e28 := b3.cell (j := 28) (v := .bool x.hl) rfl; (try rw [hwt] at e27); (try rw [hhl] at e28); have em := b4.cell (j := 0) (v := .slice A n c) rfl; have eo := b5.cell (j := 0) (v := .int .i64 i.op) rfl)
      | ((with_reducible refine wpList_load_g (o := ⟨some 67, .load 70 (.tmp 5), _, _, _, _⟩) _ _ rfl (w.heap.size + 1 + 1) 70 [.int .i64 i.op, .int .i64 i.a, .int .i64 i.b, .int .i64 i.c, .int .i64 i.imm] _ ?_ ?_ ?_ Tryz.underlying70 ?_ (ins_sz5 _ _ _ _ _) ?_); rfl; rfl; exact b5; rfl)
      | (go_at_call 25; clear e0 e17 e27 e28 em eo; (with_reducible refine (KI.out _).mono ?_); rintro e w2 ⟨rfl, l1⟩; replace b3 := b3.keep l1; replace b4 := b4.keep l1; replace b5 := b5.keep l1; replace lw := Later.trans_ lw l1)
      | (go_at_call 11; (try clear e0 e17 e27 e28 em eo); refine (KS.out _ lw).mono ?_; rintro e w3 ⟨rfl, l1⟩; replace lw := Later.trans_ lw l1))
    go_ret
    exact ⟨rfl, lw⟩
  · have p1' : decide (1 ≤ i.op) = false := decide_eq_false o1
    go_enter Tryz.func9, Tryz.ntmps9
    go_upto_region 1 with fail
    clear hu
    go_wp2_with (first
      | ((with_reducible refine wpList_load_blk (o := ⟨some 22, .load 26 (.tmp 3), _, _, _, none⟩) rfl _ _ rfl w.heap.size 26 x.cells _ ?_ ?_ Tryz.underlying26 rfl (cpu_sz _) ?_); rfl; exact b3)
      | ((with_reducible refine wpList_load_blk (o := ⟨some 23, .load 29 (.tmp 4), _, _, _, none⟩) rfl _ _ rfl (w.heap.size + 1) 29 [.slice A n c] _ ?_ ?_ Tryz.underlying29 rfl mem_sz ?_); rfl; exact b4)
      | (go_at_call 10; clear eo; (with_reducible refine (KR.out _).mono ?_); rintro e w1 ⟨rfl, l1⟩; replace b3 := b3.keep l1; replace b4 := b4.keep l1; replace b5 := b5.keep l1; replace lw := Later.trans_ lw l1; have e0 := b3.cell (j := 0) (v := .int .u32 x.pc) rfl; have e17 := b3.cell (j := 17) (v := .int .u32 x.c0) rfl; have e27 := b3.cell (j := 27) (v := .bool x.wt) rfl; have e28 := b3.cell (j := 28) (v := .bool x.hl) rfl; (try rw [hwt] at e27); (try rw [hhl] at e28); have em := b4.cell (j := 0) (v := .slice A n c) rfl; have eo := b5.cell (j := 0) (v := .int .i64 i.op) rfl)
      | ((with_reducible refine wpList_load_g (o := ⟨some 67, .load 70 (.tmp 5), _, _, _, _⟩) _ _ rfl (w.heap.size + 1 + 1) 70 [.int .i64 i.op, .int .i64 i.a, .int .i64 i.b, .int .i64 i.c, .int .i64 i.imm] _ ?_ ?_ ?_ Tryz.underlying70 ?_ (ins_sz5 _ _ _ _ _) ?_); rfl; rfl; exact b5; rfl)
      | (go_at_call 25; clear e0 e17 e27 e28 em eo; (with_reducible refine (KI.out _).mono ?_); rintro e w2 ⟨rfl, l1⟩; replace b3 := b3.keep l1; replace b4 := b4.keep l1; replace b5 := b5.keep l1; replace lw := Later.trans_ lw l1)
      | (go_at_call 11; (try clear e0 e17 e27 e28 em eo); refine (KS.out _ lw).mono ?_; rintro e w3 ⟨rfl, l1⟩; replace lw := Later.trans_ lw l1))
    go_ret
    exact ⟨rfl, lw⟩
set_option maxRecDepth 100000 in
set_option maxHeartbeats 16000000 in
theorem comp_n0 (x : Cpu) (A : Option Addr) (n c : Nat) (b : Wm.Bs) (i : Im.I) (w : World) (_hrv : x.Rv) (_hc0 : 0 ≤ x.c0 ∧ x.c0 ≤ 4294967295) (hpcr : 0 ≤ x.pc ∧ x.pc ≤ 4294967295) (_hc5 : Tm.isE x.c5) (hs : Sl w 128 A n (U b)) (_hb : Wm.isBs b) (tab : Tab w) (hS : ∀ w', Tab w' → Calls Tryz.prog 11 #[] w' fun e w'' => e = .returned (.bool true) ∧ Later w' w'') (hR : RightB x n = true) (z0 : ¬ x.c0 = 0) :
    Calls Tryz.prog 9 #[.agg x.cells.toArray, .agg #[.slice A n c], .agg #[.int .i64 i.op, .int .i64 i.a, .int .i64 i.b, .int .i64 i.c, .int .i64 i.imm]] w fun e w' => e = .returned (.bool true) ∧ Later w w' := by
  have KS := Lib.hid fun w' (l : Later w w') => hS w' (tab.keep l)
  have KR := Lib.hid fun w' => cright_any x A n c w'
  have KI := Lib.hid fun w' => refRight_any i w'
  have KE := Lib.hid fun w' => refEncode_any i w'
  have b3 := ((Blk.new w 26 x.cells.toArray x.cells rfl).alloc (.cells #[.slice A n c] 29)).alloc (.cells #[.int .i64 i.op, .int .i64 i.a, .int .i64 i.b, .int .i64 i.c, .int .i64 i.imm] 70)
  have b4 := (Blk.new' (w.alloc (.cells x.cells.toArray 26)) (w.heap.size + 1) 29 #[.slice A n c] [.slice A n c] (by simp) rfl).alloc (.cells #[.int .i64 i.op, .int .i64 i.a, .int .i64 i.b, .int .i64 i.c, .int .i64 i.imm] 70)
  have b5 := Blk.new' ((w.alloc (.cells x.cells.toArray 26)).alloc (.cells #[.slice A n c] 29)) (w.heap.size + 1 + 1) 70 #[.int .i64 i.op, .int .i64 i.a, .int .i64 i.b, .int .i64 i.c, .int .i64 i.imm] [.int .i64 i.op, .int .i64 i.a, .int .i64 i.b, .int .i64 i.c, .int .i64 i.imm] (by simp) rfl
  have lw := ((later1 w (.cells x.cells.toArray 26)).alloc (by simp) (.cells #[.slice A n c] 29)).alloc (by simp; omega) (.cells #[.int .i64 i.op, .int .i64 i.a, .int .i64 i.b, .int .i64 i.c, .int .i64 i.imm] 70)
  obtain ⟨u0, hu⟩ : ∃ u0, ((w.alloc (.cells x.cells.toArray 26)).alloc (.cells #[.slice A n c] 29)).alloc (.cells #[.int .i64 i.op, .int .i64 i.a, .int .i64 i.b, .int .i64 i.c, .int .i64 i.imm] 70) = u0 := ⟨_, rfl⟩
  rw [hu] at b3 b4 b5 lw
  have eo := b5.cell (j := 0) (v := .int .i64 i.op) rfl
  rw [hR] at KR
  unfold RightB okC at hR
  simp only [Bool.and_eq_true, decide_eq_true_eq] at hR
  have hn1 : 1 ≤ n := hR.2.2.1
  have hn64 : n ≤ 64 := hR.2.2.2
  have hcnr : 0 ≤ x.cn ∧ x.cn < 1099511627776 := ⟨hR.1.2.2.2.2.1, hR.2.1⟩
  have hbl : b.length = n * 128 := by have := hs.1; rw [U_length] at this; exact this
  have w1' : IntKind.i64.wrap ((n : Int) * 128) = (n : Int) * 128 := by rw [IntKind.wrap_i64]; omega
  have w2' : IntKind.i64.wrap ((n : Int) * 128 - 4) = (n : Int) * 128 - 4 := by rw [IntKind.wrap_i64]; omega
  have w3' : IntKind.i64.wrap x.pc = x.pc := by rw [IntKind.wrap_i64]; omega
  obtain ⟨r4, hr4⟩ : ∃ z, z = x.pc % 4 := ⟨_, rfl⟩
  have w4' : x.pc.tmod 4 = r4 := by rw [hr4]; exact Int.tmod_eq_emod_of_nonneg hpcr.1
  have w5' : IntKind.u32.wrap r4 = r4 := by rw [hr4, IntKind.wrap_u32]; omega
  clear hS hR
  have d0 : (x.c0 != 0) = true := by simpa using z0
  by_cases o1 : 1 ≤ i.op
  · have p1' : decide (1 ≤ i.op) = true := decide_eq_true o1
    go_enter Tryz.func9, Tryz.ntmps9
    go_upto_region 1 with fail
    clear hu
    go_wp2_with (first
      | ((with_reducible refine wpList_load_blk (o := ⟨some 22, .load 26 (.tmp 3), _, _, _, none⟩) rfl _ _ rfl w.heap.size 26 x.cells _ ?_ ?_ Tryz.underlying26 rfl (cpu_sz _) ?_); rfl; exact b3)
      | ((with_reducible refine wpList_load_blk (o := ⟨some 23, .load 29 (.tmp 4), _, _, _, none⟩) rfl _ _ rfl (w.heap.size + 1) 29 [.slice A n c] _ ?_ ?_ Tryz.underlying29 rfl mem_sz ?_); rfl; exact b4)
      | (go_at_call 10; clear eo; (with_reducible refine (KR.out _).mono ?_); rintro e w1 ⟨rfl, l1⟩; replace b3 := b3.keep l1; replace b4 := b4.keep l1; replace b5 := b5.keep l1; replace lw := Later.trans_ lw l1; have e0 := b3.cell (j := 0) (v := .int .u32 x.pc) rfl; have e17 := b3.cell (j := 17) (v := .int .u32 x.c0) rfl; have e27 := b3.cell (j := 27) (v := .bool x.wt) rfl; have e28 := b3.cell (j := 28) (v := .bool x.hl) rfl; (try rw [hwt] at e27); (try rw [hhl] at e28); have em := b4.cell (j := 0) (v := .slice A n c) rfl; have eo := b5.cell (j := 0) (v := .int .i64 i.op) rfl)
      | ((with_reducible refine wpList_load_g (o := ⟨some 67, .load 70 (.tmp 5), _, _, _, _⟩) _ _ rfl (w.heap.size + 1 + 1) 70 [.int .i64 i.op, .int .i64 i.a, .int .i64 i.b, .int .i64 i.c, .int .i64 i.imm] _ ?_ ?_ ?_ Tryz.underlying70 ?_ (ins_sz5 _ _ _ _ _) ?_); rfl; rfl; exact b5; rfl)
      | (go_at_call 25; clear e0 e17 e27 e28 em eo; (with_reducible refine (KI.out _).mono ?_); rintro e w2 ⟨rfl, l1⟩; replace b3 := b3.keep l1; replace b4 := b4.keep l1; replace b5 := b5.keep l1; replace lw := Later.trans_ lw l1)
      | (go_at_call 11; (try clear e0 e17 e27 e28 em eo); refine (KS.out _ lw).mono ?_; rintro e w3 ⟨rfl, l1⟩; replace lw := Later.trans_ lw l1))
    go_ret
    exact ⟨rfl, lw⟩
  · have p1' : decide (1 ≤ i.op) = false := decide_eq_false o1
    go_enter Tryz.func9, Tryz.ntmps9
    go_upto_region 1 with fail
    clear hu
    go_wp2_with (first
      | ((with_reducible refine wpList_load_blk (o := ⟨some 22, .load 26 (.tmp 3), _, _, _, none⟩) rfl _ _ rfl w.heap.size 26 x.cells _ ?_ ?_ Tryz.underlying26 rfl (cpu_sz _) ?_); rfl; exact b3)
      | ((with_reducible refine wpList_load_blk (o := ⟨some 23, .load 29 (.tmp 4), _, _, _, none⟩) rfl _ _ rfl (w.heap.size + 1) 29 [.slice A n c] _ ?_ ?_ Tryz.underlying29 rfl mem_sz ?_); rfl; exact b4)
      | (go_at_call 10; clear eo; (with_reducible refine (KR.out _).mono ?_); rintro e w1 ⟨rfl, l1⟩; replace b3 := b3.keep l1; replace b4 := b4.keep l1; replace b5 := b5.keep l1; replace lw := Later.trans_ lw l1; have e0 := b3.cell (j := 0) (v := .int .u32 x.pc) rfl; have e17 := b3.cell (j := 17) (v := .int .u32 x.c0) rfl; have e27 := b3.cell (j := 27) (v := .bool x.wt) rfl; have e28 := b3.cell (j := 28) (v := .bool x.hl) rfl; (try rw [hwt] at e27); (try rw [hhl] at e28); have em := b4.cell (j := 0) (v := .slice A n c) rfl; have eo := b5.cell (j := 0) (v := .int .i64 i.op) rfl)
      | ((with_reducible refine wpList_load_g (o := ⟨some 67, .load 70 (.tmp 5), _, _, _, _⟩) _ _ rfl (w.heap.size + 1 + 1) 70 [.int .i64 i.op, .int .i64 i.a, .int .i64 i.b, .int .i64 i.c, .int .i64 i.imm] _ ?_ ?_ ?_ Tryz.underlying70 ?_ (ins_sz5 _ _ _ _ _) ?_); rfl; rfl; exact b5; rfl)
      | (go_at_call 25; clear e0 e17 e27 e28 em eo; (with_reducible refine (KI.out _).mono ?_); rintro e w2 ⟨rfl, l1⟩; replace b3 := b3.keep l1; replace b4 := b4.keep l1; replace b5 := b5.keep l1; replace lw := Later.trans_ lw l1)
      | (go_at_call 11; (try clear e0 e17 e27 e28 em eo); refine (KS.out _ lw).mono ?_; rintro e w3 ⟨rfl, l1⟩; replace lw := Later.trans_ lw l1))
    go_ret
    exact ⟨rfl, lw⟩
set_option maxRecDepth 100000 in
set_option maxHeartbeats 16000000 in
theorem comp_n1 (x : Cpu) (A : Option Addr) (n c : Nat) (b : Wm.Bs) (i : Im.I) (w : World) (_hrv : x.Rv) (_hc0 : 0 ≤ x.c0 ∧ x.c0 ≤ 4294967295) (hpcr : 0 ≤ x.pc ∧ x.pc ≤ 4294967295) (_hc5 : Tm.isE x.c5) (hs : Sl w 128 A n (U b)) (_hb : Wm.isBs b) (tab : Tab w) (hS : ∀ w', Tab w' → Calls Tryz.prog 11 #[] w' fun e w'' => e = .returned (.bool true) ∧ Later w' w'') (hR : RightB x n = true) (z0 : x.c0 = 0) (hr4z : ¬ x.pc % 4 = 0) :
    Calls Tryz.prog 9 #[.agg x.cells.toArray, .agg #[.slice A n c], .agg #[.int .i64 i.op, .int .i64 i.a, .int .i64 i.b, .int .i64 i.c, .int .i64 i.imm]] w fun e w' => e = .returned (.bool true) ∧ Later w w' := by
  have KS := Lib.hid fun w' (l : Later w w') => hS w' (tab.keep l)
  have KR := Lib.hid fun w' => cright_any x A n c w'
  have KI := Lib.hid fun w' => refRight_any i w'
  have KE := Lib.hid fun w' => refEncode_any i w'
  have b3 := ((Blk.new w 26 x.cells.toArray x.cells rfl).alloc (.cells #[.slice A n c] 29)).alloc (.cells #[.int .i64 i.op, .int .i64 i.a, .int .i64 i.b, .int .i64 i.c, .int .i64 i.imm] 70)
  have b4 := (Blk.new' (w.alloc (.cells x.cells.toArray 26)) (w.heap.size + 1) 29 #[.slice A n c] [.slice A n c] (by simp) rfl).alloc (.cells #[.int .i64 i.op, .int .i64 i.a, .int .i64 i.b, .int .i64 i.c, .int .i64 i.imm] 70)
  have b5 := Blk.new' ((w.alloc (.cells x.cells.toArray 26)).alloc (.cells #[.slice A n c] 29)) (w.heap.size + 1 + 1) 70 #[.int .i64 i.op, .int .i64 i.a, .int .i64 i.b, .int .i64 i.c, .int .i64 i.imm] [.int .i64 i.op, .int .i64 i.a, .int .i64 i.b, .int .i64 i.c, .int .i64 i.imm] (by simp) rfl
  have lw := ((later1 w (.cells x.cells.toArray 26)).alloc (by simp) (.cells #[.slice A n c] 29)).alloc (by simp; omega) (.cells #[.int .i64 i.op, .int .i64 i.a, .int .i64 i.b, .int .i64 i.c, .int .i64 i.imm] 70)
  obtain ⟨u0, hu⟩ : ∃ u0, ((w.alloc (.cells x.cells.toArray 26)).alloc (.cells #[.slice A n c] 29)).alloc (.cells #[.int .i64 i.op, .int .i64 i.a, .int .i64 i.b, .int .i64 i.c, .int .i64 i.imm] 70) = u0 := ⟨_, rfl⟩
  rw [hu] at b3 b4 b5 lw
  have eo := b5.cell (j := 0) (v := .int .i64 i.op) rfl
  rw [hR] at KR
  unfold RightB okC at hR
  simp only [Bool.and_eq_true, decide_eq_true_eq] at hR
  have hn1 : 1 ≤ n := hR.2.2.1
  have hn64 : n ≤ 64 := hR.2.2.2
  have hcnr : 0 ≤ x.cn ∧ x.cn < 1099511627776 := ⟨hR.1.2.2.2.2.1, hR.2.1⟩
  have hbl : b.length = n * 128 := by have := hs.1; rw [U_length] at this; exact this
  have w1' : IntKind.i64.wrap ((n : Int) * 128) = (n : Int) * 128 := by rw [IntKind.wrap_i64]; omega
  have w2' : IntKind.i64.wrap ((n : Int) * 128 - 4) = (n : Int) * 128 - 4 := by rw [IntKind.wrap_i64]; omega
  have w3' : IntKind.i64.wrap x.pc = x.pc := by rw [IntKind.wrap_i64]; omega
  obtain ⟨r4, hr4⟩ : ∃ z, z = x.pc % 4 := ⟨_, rfl⟩
  have w4' : x.pc.tmod 4 = r4 := by rw [hr4]; exact Int.tmod_eq_emod_of_nonneg hpcr.1
  have w5' : IntKind.u32.wrap r4 = r4 := by rw [hr4, IntKind.wrap_u32]; omega
  clear hS hR
  have d0 : (x.c0 != 0) = false := by simpa using z0
  have d1 : (r4 != 0) = true := by rw [hr4]; simpa using hr4z
  by_cases o1 : 1 ≤ i.op
  · have p1' : decide (1 ≤ i.op) = true := decide_eq_true o1
    go_enter Tryz.func9, Tryz.ntmps9
    go_upto_region 1 with fail
    clear hu
    go_wp2_with (first
      | ((with_reducible refine wpList_load_blk (o := ⟨some 22, .load 26 (.tmp 3), _, _, _, none⟩) rfl _ _ rfl w.heap.size 26 x.cells _ ?_ ?_ Tryz.underlying26 rfl (cpu_sz _) ?_); rfl; exact b3)
      | ((with_reducible refine wpList_load_blk (o := ⟨some 23, .load 29 (.tmp 4), _, _, _, none⟩) rfl _ _ rfl (w.heap.size + 1) 29 [.slice A n c] _ ?_ ?_ Tryz.underlying29 rfl mem_sz ?_); rfl; exact b4)
      | (go_at_call 10; clear eo; (with_reducible refine (KR.out _).mono ?_); rintro e w1 ⟨rfl, l1⟩; replace b3 := b3.keep l1; replace b4 := b4.keep l1; replace b5 := b5.keep l1; replace lw := Later.trans_ lw l1; have e0 := b3.cell (j := 0) (v := .int .u32 x.pc) rfl; have e17 := b3.cell (j := 17) (v := .int .u32 x.c0) rfl; have e27 := b3.cell (j := 27) (v := .bool x.wt) rfl; have e28 := b3.cell (j := 28) (v := .bool x.hl) rfl; (try rw [hwt] at e27); (try rw [hhl] at e28); have em := b4.cell (j := 0) (v := .slice A n c) rfl; have eo := b5.cell (j := 0) (v := .int .i64 i.op) rfl)
      | ((with_reducible refine wpList_load_g (o := ⟨some 67, .load 70 (.tmp 5), _, _, _, _⟩) _ _ rfl (w.heap.size + 1 + 1) 70 [.int .i64 i.op, .int .i64 i.a, .int .i64 i.b, .int .i64 i.c, .int .i64 i.imm] _ ?_ ?_ ?_ Tryz.underlying70 ?_ (ins_sz5 _ _ _ _ _) ?_); rfl; rfl; exact b5; rfl)
      | (go_at_call 25; clear e0 e17 e27 e28 em eo; (with_reducible refine (KI.out _).mono ?_); rintro e w2 ⟨rfl, l1⟩; replace b3 := b3.keep l1; replace b4 := b4.keep l1; replace b5 := b5.keep l1; replace lw := Later.trans_ lw l1)
      | (go_at_call 11; (try clear e0 e17 e27 e28 em eo); refine (KS.out _ lw).mono ?_; rintro e w3 ⟨rfl, l1⟩; replace lw := Later.trans_ lw l1))
    go_ret
    exact ⟨rfl, lw⟩
  · have p1' : decide (1 ≤ i.op) = false := decide_eq_false o1
    go_enter Tryz.func9, Tryz.ntmps9
    go_upto_region 1 with fail
    clear hu
    go_wp2_with (first
      | ((with_reducible refine wpList_load_blk (o := ⟨some 22, .load 26 (.tmp 3), _, _, _, none⟩) rfl _ _ rfl w.heap.size 26 x.cells _ ?_ ?_ Tryz.underlying26 rfl (cpu_sz _) ?_); rfl; exact b3)
      | ((with_reducible refine wpList_load_blk (o := ⟨some 23, .load 29 (.tmp 4), _, _, _, none⟩) rfl _ _ rfl (w.heap.size + 1) 29 [.slice A n c] _ ?_ ?_ Tryz.underlying29 rfl mem_sz ?_); rfl; exact b4)
      | (go_at_call 10; clear eo; (with_reducible refine (KR.out _).mono ?_); rintro e w1 ⟨rfl, l1⟩; replace b3 := b3.keep l1; replace b4 := b4.keep l1; replace b5 := b5.keep l1; replace lw := Later.trans_ lw l1; have e0 := b3.cell (j := 0) (v := .int .u32 x.pc) rfl; have e17 := b3.cell (j := 17) (v := .int .u32 x.c0) rfl; have e27 := b3.cell (j := 27) (v := .bool x.wt) rfl; have e28 := b3.cell (j := 28) (v := .bool x.hl) rfl; (try rw [hwt] at e27); (try rw [hhl] at e28); have em := b4.cell (j := 0) (v := .slice A n c) rfl; have eo := b5.cell (j := 0) (v := .int .i64 i.op) rfl)
      | ((with_reducible refine wpList_load_g (o := ⟨some 67, .load 70 (.tmp 5), _, _, _, _⟩) _ _ rfl (w.heap.size + 1 + 1) 70 [.int .i64 i.op, .int .i64 i.a, .int .i64 i.b, .int .i64 i.c, .int .i64 i.imm] _ ?_ ?_ ?_ Tryz.underlying70 ?_ (ins_sz5 _ _ _ _ _) ?_); rfl; rfl; exact b5; rfl)
      | (go_at_call 25; clear e0 e17 e27 e28 em eo; (with_reducible refine (KI.out _).mono ?_); rintro e w2 ⟨rfl, l1⟩; replace b3 := b3.keep l1; replace b4 := b4.keep l1; replace b5 := b5.keep l1; replace lw := Later.trans_ lw l1)
      | (go_at_call 11; (try clear e0 e17 e27 e28 em eo); refine (KS.out _ lw).mono ?_; rintro e w3 ⟨rfl, l1⟩; replace lw := Later.trans_ lw l1))
    go_ret
    exact ⟨rfl, lw⟩
set_option maxRecDepth 100000 in
set_option maxHeartbeats 16000000 in
theorem comp_n2 (x : Cpu) (A : Option Addr) (n c : Nat) (b : Wm.Bs) (i : Im.I) (w : World) (_hrv : x.Rv) (_hc0 : 0 ≤ x.c0 ∧ x.c0 ≤ 4294967295) (hpcr : 0 ≤ x.pc ∧ x.pc ≤ 4294967295) (_hc5 : Tm.isE x.c5) (hs : Sl w 128 A n (U b)) (_hb : Wm.isBs b) (tab : Tab w) (hS : ∀ w', Tab w' → Calls Tryz.prog 11 #[] w' fun e w'' => e = .returned (.bool true) ∧ Later w' w'') (hR : RightB x n = true) (z0 : x.c0 = 0) (hr4z : x.pc % 4 = 0) (z2 : ¬ x.pc ≤ (n : Int) * 128 - 4) :
    Calls Tryz.prog 9 #[.agg x.cells.toArray, .agg #[.slice A n c], .agg #[.int .i64 i.op, .int .i64 i.a, .int .i64 i.b, .int .i64 i.c, .int .i64 i.imm]] w fun e w' => e = .returned (.bool true) ∧ Later w w' := by
  have KS := Lib.hid fun w' (l : Later w w') => hS w' (tab.keep l)
  have KR := Lib.hid fun w' => cright_any x A n c w'
  have KI := Lib.hid fun w' => refRight_any i w'
  have KE := Lib.hid fun w' => refEncode_any i w'
  have b3 := ((Blk.new w 26 x.cells.toArray x.cells rfl).alloc (.cells #[.slice A n c] 29)).alloc (.cells #[.int .i64 i.op, .int .i64 i.a, .int .i64 i.b, .int .i64 i.c, .int .i64 i.imm] 70)
  have b4 := (Blk.new' (w.alloc (.cells x.cells.toArray 26)) (w.heap.size + 1) 29 #[.slice A n c] [.slice A n c] (by simp) rfl).alloc (.cells #[.int .i64 i.op, .int .i64 i.a, .int .i64 i.b, .int .i64 i.c, .int .i64 i.imm] 70)
  have b5 := Blk.new' ((w.alloc (.cells x.cells.toArray 26)).alloc (.cells #[.slice A n c] 29)) (w.heap.size + 1 + 1) 70 #[.int .i64 i.op, .int .i64 i.a, .int .i64 i.b, .int .i64 i.c, .int .i64 i.imm] [.int .i64 i.op, .int .i64 i.a, .int .i64 i.b, .int .i64 i.c, .int .i64 i.imm] (by simp) rfl
  have lw := ((later1 w (.cells x.cells.toArray 26)).alloc (by simp) (.cells #[.slice A n c] 29)).alloc (by simp; omega) (.cells #[.int .i64 i.op, .int .i64 i.a, .int .i64 i.b, .int .i64 i.c, .int .i64 i.imm] 70)
  obtain ⟨u0, hu⟩ : ∃ u0, ((w.alloc (.cells x.cells.toArray 26)).alloc (.cells #[.slice A n c] 29)).alloc (.cells #[.int .i64 i.op, .int .i64 i.a, .int .i64 i.b, .int .i64 i.c, .int .i64 i.imm] 70) = u0 := ⟨_, rfl⟩
  rw [hu] at b3 b4 b5 lw
  have eo := b5.cell (j := 0) (v := .int .i64 i.op) rfl
  rw [hR] at KR
  unfold RightB okC at hR
  simp only [Bool.and_eq_true, decide_eq_true_eq] at hR
  have hn1 : 1 ≤ n := hR.2.2.1
  have hn64 : n ≤ 64 := hR.2.2.2
  have hcnr : 0 ≤ x.cn ∧ x.cn < 1099511627776 := ⟨hR.1.2.2.2.2.1, hR.2.1⟩
  have hbl : b.length = n * 128 := by have := hs.1; rw [U_length] at this; exact this
  have w1' : IntKind.i64.wrap ((n : Int) * 128) = (n : Int) * 128 := by rw [IntKind.wrap_i64]; omega
  have w2' : IntKind.i64.wrap ((n : Int) * 128 - 4) = (n : Int) * 128 - 4 := by rw [IntKind.wrap_i64]; omega
  have w3' : IntKind.i64.wrap x.pc = x.pc := by rw [IntKind.wrap_i64]; omega
  obtain ⟨r4, hr4⟩ : ∃ z, z = x.pc % 4 := ⟨_, rfl⟩
  have w4' : x.pc.tmod 4 = r4 := by rw [hr4]; exact Int.tmod_eq_emod_of_nonneg hpcr.1
  have w5' : IntKind.u32.wrap r4 = r4 := by rw [hr4, IntKind.wrap_u32]; omega
  clear hS hR
  have d0 : (x.c0 != 0) = false := by simpa using z0
  have d1 : (r4 != 0) = false := by rw [hr4]; simpa using hr4z
  have d2 : decide ((n : Int) * 128 - 4 < x.pc) = true := decide_eq_true (by omega)
  by_cases o1 : 1 ≤ i.op
  · have p1' : decide (1 ≤ i.op) = true := decide_eq_true o1
    go_enter Tryz.func9, Tryz.ntmps9
    go_upto_region 1 with fail
    clear hu
    go_wp2_with (first
      | ((with_reducible refine wpList_load_blk (o := ⟨some 22, .load 26 (.tmp 3), _, _, _, none⟩) rfl _ _ rfl w.heap.size 26 x.cells _ ?_ ?_ Tryz.underlying26 rfl (cpu_sz _) ?_); rfl; exact b3)
      | ((with_reducible refine wpList_load_blk (o := ⟨some 23, .load 29 (.tmp 4), _, _, _, none⟩) rfl _ _ rfl (w.heap.size + 1) 29 [.slice A n c] _ ?_ ?_ Tryz.underlying29 rfl mem_sz ?_); rfl; exact b4)
      | (go_at_call 10; clear eo; (with_reducible refine (KR.out _).mono ?_); rintro e w1 ⟨rfl, l1⟩; replace b3 := b3.keep l1; replace b4 := b4.keep l1; replace b5 := b5.keep l1; replace lw := Later.trans_ lw l1; have e0 := b3.cell (j := 0) (v := .int .u32 x.pc) rfl; have e17 := b3.cell (j := 17) (v := .int .u32 x.c0) rfl; have e27 := b3.cell (j := 27) (v := .bool x.wt) rfl; have e28 := b3.cell (j := 28) (v := .bool x.hl) rfl; (try rw [hwt] at e27); (try rw [hhl] at e28); have em := b4.cell (j := 0) (v := .slice A n c) rfl; have eo := b5.cell (j := 0) (v := .int .i64 i.op) rfl)
      | ((with_reducible refine wpList_load_g (o := ⟨some 67, .load 70 (.tmp 5), _, _, _, _⟩) _ _ rfl (w.heap.size + 1 + 1) 70 [.int .i64 i.op, .int .i64 i.a, .int .i64 i.b, .int .i64 i.c, .int .i64 i.imm] _ ?_ ?_ ?_ Tryz.underlying70 ?_ (ins_sz5 _ _ _ _ _) ?_); rfl; rfl; exact b5; rfl)
      | (go_at_call 25; clear e0 e17 e27 e28 em eo; (with_reducible refine (KI.out _).mono ?_); rintro e w2 ⟨rfl, l1⟩; replace b3 := b3.keep l1; replace b4 := b4.keep l1; replace b5 := b5.keep l1; replace lw := Later.trans_ lw l1)
      | (go_at_call 11; (try clear e0 e17 e27 e28 em eo); refine (KS.out _ lw).mono ?_; rintro e w3 ⟨rfl, l1⟩; replace lw := Later.trans_ lw l1))
    go_ret
    exact ⟨rfl, lw⟩
  · have p1' : decide (1 ≤ i.op) = false := decide_eq_false o1
    go_enter Tryz.func9, Tryz.ntmps9
    go_upto_region 1 with fail
    clear hu
    go_wp2_with (first
      | ((with_reducible refine wpList_load_blk (o := ⟨some 22, .load 26 (.tmp 3), _, _, _, none⟩) rfl _ _ rfl w.heap.size 26 x.cells _ ?_ ?_ Tryz.underlying26 rfl (cpu_sz _) ?_); rfl; exact b3)
      | ((with_reducible refine wpList_load_blk (o := ⟨some 23, .load 29 (.tmp 4), _, _, _, none⟩) rfl _ _ rfl (w.heap.size + 1) 29 [.slice A n c] _ ?_ ?_ Tryz.underlying29 rfl mem_sz ?_); rfl; exact b4)
      | (go_at_call 10; clear eo; (with_reducible refine (KR.out _).mono ?_); rintro e w1 ⟨rfl, l1⟩; replace b3 := b3.keep l1; replace b4 := b4.keep l1; replace b5 := b5.keep l1; replace lw := Later.trans_ lw l1; have e0 := b3.cell (j := 0) (v := .int .u32 x.pc) rfl; have e17 := b3.cell (j := 17) (v := .int .u32 x.c0) rfl; have e27 := b3.cell (j := 27) (v := .bool x.wt) rfl; have e28 := b3.cell (j := 28) (v := .bool x.hl) rfl; (try rw [hwt] at e27); (try rw [hhl] at e28); have em := b4.cell (j := 0) (v := .slice A n c) rfl; have eo := b5.cell (j := 0) (v := .int .i64 i.op) rfl)
      | ((with_reducible refine wpList_load_g (o := ⟨some 67, .load 70 (.tmp 5), _, _, _, _⟩) _ _ rfl (w.heap.size + 1 + 1) 70 [.int .i64 i.op, .int .i64 i.a, .int .i64 i.b, .int .i64 i.c, .int .i64 i.imm] _ ?_ ?_ ?_ Tryz.underlying70 ?_ (ins_sz5 _ _ _ _ _) ?_); rfl; rfl; exact b5; rfl)
      | (go_at_call 25; clear e0 e17 e27 e28 em eo; (with_reducible refine (KI.out _).mono ?_); rintro e w2 ⟨rfl, l1⟩; replace b3 := b3.keep l1; replace b4 := b4.keep l1; replace b5 := b5.keep l1; replace lw := Later.trans_ lw l1)
      | (go_at_call 11; (try clear e0 e17 e27 e28 em eo); refine (KS.out _ lw).mono ?_; rintro e w3 ⟨rfl, l1⟩; replace lw := Later.trans_ lw l1))
    go_ret
    exact ⟨rfl, lw⟩
set_option maxRecDepth 100000 in
set_option maxHeartbeats 16000000 in
theorem comp_n3 (x : Cpu) (A : Option Addr) (n c : Nat) (b : Wm.Bs) (i : Im.I) (w : World) (_hrv : x.Rv) (_hc0 : 0 ≤ x.c0 ∧ x.c0 ≤ 4294967295) (hpcr : 0 ≤ x.pc ∧ x.pc ≤ 4294967295) (_hc5 : Tm.isE x.c5) (hs : Sl w 128 A n (U b)) (_hb : Wm.isBs b) (tab : Tab w) (hS : ∀ w', Tab w' → Calls Tryz.prog 11 #[] w' fun e w'' => e = .returned (.bool true) ∧ Later w' w'') (hR : RightB x n = true) (z0 : x.c0 = 0) (hr4z : x.pc % 4 = 0) (z2 : x.pc ≤ (n : Int) * 128 - 4) (hwt : x.wt = true) :
    Calls Tryz.prog 9 #[.agg x.cells.toArray, .agg #[.slice A n c], .agg #[.int .i64 i.op, .int .i64 i.a, .int .i64 i.b, .int .i64 i.c, .int .i64 i.imm]] w fun e w' => e = .returned (.bool true) ∧ Later w w' := by
  have KS := Lib.hid fun w' (l : Later w w') => hS w' (tab.keep l)
  have KR := Lib.hid fun w' => cright_any x A n c w'
  have KI := Lib.hid fun w' => refRight_any i w'
  have KE := Lib.hid fun w' => refEncode_any i w'
  have b3 := ((Blk.new w 26 x.cells.toArray x.cells rfl).alloc (.cells #[.slice A n c] 29)).alloc (.cells #[.int .i64 i.op, .int .i64 i.a, .int .i64 i.b, .int .i64 i.c, .int .i64 i.imm] 70)
  have b4 := (Blk.new' (w.alloc (.cells x.cells.toArray 26)) (w.heap.size + 1) 29 #[.slice A n c] [.slice A n c] (by simp) rfl).alloc (.cells #[.int .i64 i.op, .int .i64 i.a, .int .i64 i.b, .int .i64 i.c, .int .i64 i.imm] 70)
  have b5 := Blk.new' ((w.alloc (.cells x.cells.toArray 26)).alloc (.cells #[.slice A n c] 29)) (w.heap.size + 1 + 1) 70 #[.int .i64 i.op, .int .i64 i.a, .int .i64 i.b, .int .i64 i.c, .int .i64 i.imm] [.int .i64 i.op, .int .i64 i.a, .int .i64 i.b, .int .i64 i.c, .int .i64 i.imm] (by simp) rfl
  have lw := ((later1 w (.cells x.cells.toArray 26)).alloc (by simp) (.cells #[.slice A n c] 29)).alloc (by simp; omega) (.cells #[.int .i64 i.op, .int .i64 i.a, .int .i64 i.b, .int .i64 i.c, .int .i64 i.imm] 70)
  obtain ⟨u0, hu⟩ : ∃ u0, ((w.alloc (.cells x.cells.toArray 26)).alloc (.cells #[.slice A n c] 29)).alloc (.cells #[.int .i64 i.op, .int .i64 i.a, .int .i64 i.b, .int .i64 i.c, .int .i64 i.imm] 70) = u0 := ⟨_, rfl⟩
  rw [hu] at b3 b4 b5 lw
  have eo := b5.cell (j := 0) (v := .int .i64 i.op) rfl
  rw [hR] at KR
  unfold RightB okC at hR
  simp only [Bool.and_eq_true, decide_eq_true_eq] at hR
  have hn1 : 1 ≤ n := hR.2.2.1
  have hn64 : n ≤ 64 := hR.2.2.2
  have hcnr : 0 ≤ x.cn ∧ x.cn < 1099511627776 := ⟨hR.1.2.2.2.2.1, hR.2.1⟩
  have hbl : b.length = n * 128 := by have := hs.1; rw [U_length] at this; exact this
  have w1' : IntKind.i64.wrap ((n : Int) * 128) = (n : Int) * 128 := by rw [IntKind.wrap_i64]; omega
  have w2' : IntKind.i64.wrap ((n : Int) * 128 - 4) = (n : Int) * 128 - 4 := by rw [IntKind.wrap_i64]; omega
  have w3' : IntKind.i64.wrap x.pc = x.pc := by rw [IntKind.wrap_i64]; omega
  obtain ⟨r4, hr4⟩ : ∃ z, z = x.pc % 4 := ⟨_, rfl⟩
  have w4' : x.pc.tmod 4 = r4 := by rw [hr4]; exact Int.tmod_eq_emod_of_nonneg hpcr.1
  have w5' : IntKind.u32.wrap r4 = r4 := by rw [hr4, IntKind.wrap_u32]; omega
  clear hS hR
  have d0 : (x.c0 != 0) = false := by simpa using z0
  have d1 : (r4 != 0) = false := by rw [hr4]; simpa using hr4z
  have d2 : decide ((n : Int) * 128 - 4 < x.pc) = false := decide_eq_false (by omega)
  by_cases o1 : 1 ≤ i.op
  · have p1' : decide (1 ≤ i.op) = true := decide_eq_true o1
    go_enter Tryz.func9, Tryz.ntmps9
    go_upto_region 1 with fail
    clear hu
    go_wp2_with (first
      | ((with_reducible refine wpList_load_blk (o := ⟨some 22, .load 26 (.tmp 3), _, _, _, none⟩) rfl _ _ rfl w.heap.size 26 x.cells _ ?_ ?_ Tryz.underlying26 rfl (cpu_sz _) ?_); rfl; exact b3)
      | ((with_reducible refine wpList_load_blk (o := ⟨some 23, .load 29 (.tmp 4), _, _, _, none⟩) rfl _ _ rfl (w.heap.size + 1) 29 [.slice A n c] _ ?_ ?_ Tryz.underlying29 rfl mem_sz ?_); rfl; exact b4)
      | (go_at_call 10; clear eo; (with_reducible refine (KR.out _).mono ?_); rintro e w1 ⟨rfl, l1⟩; replace b3 := b3.keep l1; replace b4 := b4.keep l1; replace b5 := b5.keep l1; replace lw := Later.trans_ lw l1; have e0 := b3.cell (j := 0) (v := .int .u32 x.pc) rfl; have e17 := b3.cell (j := 17) (v := .int .u32 x.c0) rfl; have e27 := b3.cell (j := 27) (v := .bool x.wt) rfl; have e28 := b3.cell (j := 28) (v := .bool x.hl) rfl; (try rw [hwt] at e27); (try rw [hhl] at e28); have em := b4.cell (j := 0) (v := .slice A n c) rfl; have eo := b5.cell (j := 0) (v := .int .i64 i.op) rfl)
      | ((with_reducible refine wpList_load_g (o := ⟨some 67, .load 70 (.tmp 5), _, _, _, _⟩) _ _ rfl (w.heap.size + 1 + 1) 70 [.int .i64 i.op, .int .i64 i.a, .int .i64 i.b, .int .i64 i.c, .int .i64 i.imm] _ ?_ ?_ ?_ Tryz.underlying70 ?_ (ins_sz5 _ _ _ _ _) ?_); rfl; rfl; exact b5; rfl)
      | (go_at_call 25; clear e0 e17 e27 e28 em eo; (with_reducible refine (KI.out _).mono ?_); rintro e w2 ⟨rfl, l1⟩; replace b3 := b3.keep l1; replace b4 := b4.keep l1; replace b5 := b5.keep l1; replace lw := Later.trans_ lw l1)
      | (go_at_call 11; (try clear e0 e17 e27 e28 em eo); refine (KS.out _ lw).mono ?_; rintro e w3 ⟨rfl, l1⟩; replace lw := Later.trans_ lw l1))
    go_ret
    exact ⟨rfl, lw⟩
  · have p1' : decide (1 ≤ i.op) = false := decide_eq_false o1
    go_enter Tryz.func9, Tryz.ntmps9
    go_upto_region 1 with fail
    clear hu
    go_wp2_with (first
      | ((with_reducible refine wpList_load_blk (o := ⟨some 22, .load 26 (.tmp 3), _, _, _, none⟩) rfl _ _ rfl w.heap.size 26 x.cells _ ?_ ?_ Tryz.underlying26 rfl (cpu_sz _) ?_); rfl; exact b3)
      | ((with_reducible refine wpList_load_blk (o := ⟨some 23, .load 29 (.tmp 4), _, _, _, none⟩) rfl _ _ rfl (w.heap.size + 1) 29 [.slice A n c] _ ?_ ?_ Tryz.underlying29 rfl mem_sz ?_); rfl; exact b4)
      | (go_at_call 10; clear eo; (with_reducible refine (KR.out _).mono ?_); rintro e w1 ⟨rfl, l1⟩; replace b3 := b3.keep l1; replace b4 := b4.keep l1; replace b5 := b5.keep l1; replace lw := Later.trans_ lw l1; have e0 := b3.cell (j := 0) (v := .int .u32 x.pc) rfl; have e17 := b3.cell (j := 17) (v := .int .u32 x.c0) rfl; have e27 := b3.cell (j := 27) (v := .bool x.wt) rfl; have e28 := b3.cell (j := 28) (v := .bool x.hl) rfl; (try rw [hwt] at e27); (try rw [hhl] at e28); have em := b4.cell (j := 0) (v := .slice A n c) rfl; have eo := b5.cell (j := 0) (v := .int .i64 i.op) rfl)
      | ((with_reducible refine wpList_load_g (o := ⟨some 67, .load 70 (.tmp 5), _, _, _, _⟩) _ _ rfl (w.heap.size + 1 + 1) 70 [.int .i64 i.op, .int .i64 i.a, .int .i64 i.b, .int .i64 i.c, .int .i64 i.imm] _ ?_ ?_ ?_ Tryz.underlying70 ?_ (ins_sz5 _ _ _ _ _) ?_); rfl; rfl; exact b5; rfl)
      | (go_at_call 25; clear e0 e17 e27 e28 em eo; (with_reducible refine (KI.out _).mono ?_); rintro e w2 ⟨rfl, l1⟩; replace b3 := b3.keep l1; replace b4 := b4.keep l1; replace b5 := b5.keep l1; replace lw := Later.trans_ lw l1)
      | (go_at_call 11; (try clear e0 e17 e27 e28 em eo); refine (KS.out _ lw).mono ?_; rintro e w3 ⟨rfl, l1⟩; replace lw := Later.trans_ lw l1))
    go_ret
    exact ⟨rfl, lw⟩
set_option maxRecDepth 100000 in
set_option maxHeartbeats 16000000 in
theorem comp_n4 (x : Cpu) (A : Option Addr) (n c : Nat) (b : Wm.Bs) (i : Im.I) (w : World) (_hrv : x.Rv) (_hc0 : 0 ≤ x.c0 ∧ x.c0 ≤ 4294967295) (hpcr : 0 ≤ x.pc ∧ x.pc ≤ 4294967295) (_hc5 : Tm.isE x.c5) (hs : Sl w 128 A n (U b)) (_hb : Wm.isBs b) (tab : Tab w) (hS : ∀ w', Tab w' → Calls Tryz.prog 11 #[] w' fun e w'' => e = .returned (.bool true) ∧ Later w' w'') (hR : RightB x n = true) (z0 : x.c0 = 0) (hr4z : x.pc % 4 = 0) (z2 : x.pc ≤ (n : Int) * 128 - 4) (hwt : x.wt = false) (hhl : x.hl = true) :
    Calls Tryz.prog 9 #[.agg x.cells.toArray, .agg #[.slice A n c], .agg #[.int .i64 i.op, .int .i64 i.a, .int .i64 i.b, .int .i64 i.c, .int .i64 i.imm]] w fun e w' => e = .returned (.bool true) ∧ Later w w' := by
  have KS := Lib.hid fun w' (l : Later w w') => hS w' (tab.keep l)
  have KR := Lib.hid fun w' => cright_any x A n c w'
  have KI := Lib.hid fun w' => refRight_any i w'
  have KE := Lib.hid fun w' => refEncode_any i w'
  have b3 := ((Blk.new w 26 x.cells.toArray x.cells rfl).alloc (.cells #[.slice A n c] 29)).alloc (.cells #[.int .i64 i.op, .int .i64 i.a, .int .i64 i.b, .int .i64 i.c, .int .i64 i.imm] 70)
  have b4 := (Blk.new' (w.alloc (.cells x.cells.toArray 26)) (w.heap.size + 1) 29 #[.slice A n c] [.slice A n c] (by simp) rfl).alloc (.cells #[.int .i64 i.op, .int .i64 i.a, .int .i64 i.b, .int .i64 i.c, .int .i64 i.imm] 70)
  have b5 := Blk.new' ((w.alloc (.cells x.cells.toArray 26)).alloc (.cells #[.slice A n c] 29)) (w.heap.size + 1 + 1) 70 #[.int .i64 i.op, .int .i64 i.a, .int .i64 i.b, .int .i64 i.c, .int .i64 i.imm] [.int .i64 i.op, .int .i64 i.a, .int .i64 i.b, .int .i64 i.c, .int .i64 i.imm] (by simp) rfl
  have lw := ((later1 w (.cells x.cells.toArray 26)).alloc (by simp) (.cells #[.slice A n c] 29)).alloc (by simp; omega) (.cells #[.int .i64 i.op, .int .i64 i.a, .int .i64 i.b, .int .i64 i.c, .int .i64 i.imm] 70)
  obtain ⟨u0, hu⟩ : ∃ u0, ((w.alloc (.cells x.cells.toArray 26)).alloc (.cells #[.slice A n c] 29)).alloc (.cells #[.int .i64 i.op, .int .i64 i.a, .int .i64 i.b, .int .i64 i.c, .int .i64 i.imm] 70) = u0 := ⟨_, rfl⟩
  rw [hu] at b3 b4 b5 lw
  have eo := b5.cell (j := 0) (v := .int .i64 i.op) rfl
  rw [hR] at KR
  unfold RightB okC at hR
  simp only [Bool.and_eq_true, decide_eq_true_eq] at hR
  have hn1 : 1 ≤ n := hR.2.2.1
  have hn64 : n ≤ 64 := hR.2.2.2
  have hcnr : 0 ≤ x.cn ∧ x.cn < 1099511627776 := ⟨hR.1.2.2.2.2.1, hR.2.1⟩
  have hbl : b.length = n * 128 := by have := hs.1; rw [U_length] at this; exact this
  have w1' : IntKind.i64.wrap ((n : Int) * 128) = (n : Int) * 128 := by rw [IntKind.wrap_i64]; omega
  have w2' : IntKind.i64.wrap ((n : Int) * 128 - 4) = (n : Int) * 128 - 4 := by rw [IntKind.wrap_i64]; omega
  have w3' : IntKind.i64.wrap x.pc = x.pc := by rw [IntKind.wrap_i64]; omega
  obtain ⟨r4, hr4⟩ : ∃ z, z = x.pc % 4 := ⟨_, rfl⟩
  have w4' : x.pc.tmod 4 = r4 := by rw [hr4]; exact Int.tmod_eq_emod_of_nonneg hpcr.1
  have w5' : IntKind.u32.wrap r4 = r4 := by rw [hr4, IntKind.wrap_u32]; omega
  clear hS hR
  have d0 : (x.c0 != 0) = false := by simpa using z0
  have d1 : (r4 != 0) = false := by rw [hr4]; simpa using hr4z
  have d2 : decide ((n : Int) * 128 - 4 < x.pc) = false := decide_eq_false (by omega)
  by_cases o1 : 1 ≤ i.op
  · have p1' : decide (1 ≤ i.op) = true := decide_eq_true o1
    go_enter Tryz.func9, Tryz.ntmps9
    go_upto_region 1 with fail
    clear hu
    go_wp2_with (first
      | ((with_reducible refine wpList_load_blk (o := ⟨some 22, .load 26 (.tmp 3), _, _, _, none⟩) rfl _ _ rfl w.heap.size 26 x.cells _ ?_ ?_ Tryz.underlying26 rfl (cpu_sz _) ?_); rfl; exact b3)
      | ((with_reducible refine wpList_load_blk (o := ⟨some 23, .load 29 (.tmp 4), _, _, _, none⟩) rfl _ _ rfl (w.heap.size + 1) 29 [.slice A n c] _ ?_ ?_ Tryz.underlying29 rfl mem_sz ?_); rfl; exact b4)
      | (go_at_call 10; clear eo; (with_reducible refine (KR.out _).mono ?_); rintro e w1 ⟨rfl, l1⟩; replace b3 := b3.keep l1; replace b4 := b4.keep l1; replace b5 := b5.keep l1; replace lw := Later.trans_ lw l1; have e0 := b3.cell (j := 0) (v := .int .u32 x.pc) rfl; have e17 := b3.cell (j := 17) (v := .int .u32 x.c0) rfl; have e27 := b3.cell (j := 27) (v := .bool x.wt) rfl; have e28 := b3.cell (j := 28) (v := .bool x.hl) rfl; (try rw [hwt] at e27); (try rw [hhl] at e28); have em := b4.cell (j := 0) (v := .slice A n c) rfl; have eo := b5.cell (j := 0) (v := .int .i64 i.op) rfl)
      | ((with_reducible refine wpList_load_g (o := ⟨some 67, .load 70 (.tmp 5), _, _, _, _⟩) _ _ rfl (w.heap.size + 1 + 1) 70 [.int .i64 i.op, .int .i64 i.a, .int .i64 i.b, .int .i64 i.c, .int .i64 i.imm] _ ?_ ?_ ?_ Tryz.underlying70 ?_ (ins_sz5 _ _ _ _ _) ?_); rfl; rfl; exact b5; rfl)
      | (go_at_call 25; clear e0 e17 e27 e28 em eo; (with_reducible refine (KI.out _).mono ?_); rintro e w2 ⟨rfl, l1⟩; replace b3 := b3.keep l1; replace b4 := b4.keep l1; replace b5 := b5.keep l1; replace lw := Later.trans_ lw l1)
      | (go_at_call 11; (try clear e0 e17 e27 e28 em eo); refine (KS.out _ lw).mono ?_; rintro e w3 ⟨rfl, l1⟩; replace lw := Later.trans_ lw l1))
    go_ret
    exact ⟨rfl, lw⟩
  · have p1' : decide (1 ≤ i.op) = false := decide_eq_false o1
    go_enter Tryz.func9, Tryz.ntmps9
    go_upto_region 1 with fail
    clear hu
    go_wp2_with (first
      | ((with_reducible refine wpList_load_blk (o := ⟨some 22, .load 26 (.tmp 3), _, _, _, none⟩) rfl _ _ rfl w.heap.size 26 x.cells _ ?_ ?_ Tryz.underlying26 rfl (cpu_sz _) ?_); rfl; exact b3)
      | ((with_reducible refine wpList_load_blk (o := ⟨some 23, .load 29 (.tmp 4), _, _, _, none⟩) rfl _ _ rfl (w.heap.size + 1) 29 [.slice A n c] _ ?_ ?_ Tryz.underlying29 rfl mem_sz ?_); rfl; exact b4)
      | (go_at_call 10; clear eo; (with_reducible refine (KR.out _).mono ?_); rintro e w1 ⟨rfl, l1⟩; replace b3 := b3.keep l1; replace b4 := b4.keep l1; replace b5 := b5.keep l1; replace lw := Later.trans_ lw l1; have e0 := b3.cell (j := 0) (v := .int .u32 x.pc) rfl; have e17 := b3.cell (j := 17) (v := .int .u32 x.c0) rfl; have e27 := b3.cell (j := 27) (v := .bool x.wt) rfl; have e28 := b3.cell (j := 28) (v := .bool x.hl) rfl; (try rw [hwt] at e27); (try rw [hhl] at e28); have em := b4.cell (j := 0) (v := .slice A n c) rfl; have eo := b5.cell (j := 0) (v := .int .i64 i.op) rfl)
      | ((with_reducible refine wpList_load_g (o := ⟨some 67, .load 70 (.tmp 5), _, _, _, _⟩) _ _ rfl (w.heap.size + 1 + 1) 70 [.int .i64 i.op, .int .i64 i.a, .int .i64 i.b, .int .i64 i.c, .int .i64 i.imm] _ ?_ ?_ ?_ Tryz.underlying70 ?_ (ins_sz5 _ _ _ _ _) ?_); rfl; rfl; exact b5; rfl)
      | (go_at_call 25; clear e0 e17 e27 e28 em eo; (with_reducible refine (KI.out _).mono ?_); rintro e w2 ⟨rfl, l1⟩; replace b3 := b3.keep l1; replace b4 := b4.keep l1; replace b5 := b5.keep l1; replace lw := Later.trans_ lw l1)
      | (go_at_call 11; (try clear e0 e17 e27 e28 em eo); refine (KS.out _ lw).mono ?_; rintro e w3 ⟨rfl, l1⟩; replace lw := Later.trans_ lw l1))
    go_ret
    exact ⟨rfl, lw⟩
set_option maxRecDepth 100000 in
set_option maxHeartbeats 16000000 in
theorem comp_n5 (x : Cpu) (A : Option Addr) (n c : Nat) (b : Wm.Bs) (i : Im.I) (w : World) (_hrv : x.Rv) (_hc0 : 0 ≤ x.c0 ∧ x.c0 ≤ 4294967295) (hpcr : 0 ≤ x.pc ∧ x.pc ≤ 4294967295) (_hc5 : Tm.isE x.c5) (hs : Sl w 128 A n (U b)) (_hb : Wm.isBs b) (tab : Tab w) (hS : ∀ w', Tab w' → Calls Tryz.prog 11 #[] w' fun e w'' => e = .returned (.bool true) ∧ Later w' w'') (hR : RightB x n = true) (z0 : x.c0 = 0) (hr4z : x.pc % 4 = 0) (z2 : x.pc ≤ (n : Int) * 128 - 4) (hwt : x.wt = false) (hhl : x.hl = false) (hop : 1 ≤ i.op ∧ i.op ≤ 12) (hRi : ¬ Im.Right i) :
    Calls Tryz.prog 9 #[.agg x.cells.toArray, .agg #[.slice A n c], .agg #[.int .i64 i.op, .int .i64 i.a, .int .i64 i.b, .int .i64 i.c, .int .i64 i.imm]] w fun e w' => e = .returned (.bool true) ∧ Later w w' := by
  have KS := Lib.hid fun w' (l : Later w w') => hS w' (tab.keep l)
  have KR := Lib.hid fun w' => cright_any x A n c w'
  have KI := Lib.hid fun w' => refRight_any i w'
  have KE := Lib.hid fun w' => refEncode_any i w'
  have b3 := ((Blk.new w 26 x.cells.toArray x.cells rfl).alloc (.cells #[.slice A n c] 29)).alloc (.cells #[.int .i64 i.op, .int .i64 i.a, .int .i64 i.b, .int .i64 i.c, .int .i64 i.imm] 70)
  have b4 := (Blk.new' (w.alloc (.cells x.cells.toArray 26)) (w.heap.size + 1) 29 #[.slice A n c] [.slice A n c] (by simp) rfl).alloc (.cells #[.int .i64 i.op, .int .i64 i.a, .int .i64 i.b, .int .i64 i.c, .int .i64 i.imm] 70)
  have b5 := Blk.new' ((w.alloc (.cells x.cells.toArray 26)).alloc (.cells #[.slice A n c] 29)) (w.heap.size + 1 + 1) 70 #[.int .i64 i.op, .int .i64 i.a, .int .i64 i.b, .int .i64 i.c, .int .i64 i.imm] [.int .i64 i.op, .int .i64 i.a, .int .i64 i.b, .int .i64 i.c, .int .i64 i.imm] (by simp) rfl
  have lw := ((later1 w (.cells x.cells.toArray 26)).alloc (by simp) (.cells #[.slice A n c] 29)).alloc (by simp; omega) (.cells #[.int .i64 i.op, .int .i64 i.a, .int .i64 i.b, .int .i64 i.c, .int .i64 i.imm] 70)
  obtain ⟨u0, hu⟩ : ∃ u0, ((w.alloc (.cells x.cells.toArray 26)).alloc (.cells #[.slice A n c] 29)).alloc (.cells #[.int .i64 i.op, .int .i64 i.a, .int .i64 i.b, .int .i64 i.c, .int .i64 i.imm] 70) = u0 := ⟨_, rfl⟩
  rw [hu] at b3 b4 b5 lw
  have eo := b5.cell (j := 0) (v := .int .i64 i.op) rfl
  rw [hR] at KR
  unfold RightB okC at hR
  simp only [Bool.and_eq_true, decide_eq_true_eq] at hR
  have hn1 : 1 ≤ n := hR.2.2.1
  have hn64 : n ≤ 64 := hR.2.2.2
  have hcnr : 0 ≤ x.cn ∧ x.cn < 1099511627776 := ⟨hR.1.2.2.2.2.1, hR.2.1⟩
  have hbl : b.length = n * 128 := by have := hs.1; rw [U_length] at this; exact this
  have w1' : IntKind.i64.wrap ((n : Int) * 128) = (n : Int) * 128 := by rw [IntKind.wrap_i64]; omega
  have w2' : IntKind.i64.wrap ((n : Int) * 128 - 4) = (n : Int) * 128 - 4 := by rw [IntKind.wrap_i64]; omega
  have w3' : IntKind.i64.wrap x.pc = x.pc := by rw [IntKind.wrap_i64]; omega
  obtain ⟨r4, hr4⟩ : ∃ z, z = x.pc % 4 := ⟨_, rfl⟩
  have w4' : x.pc.tmod 4 = r4 := by rw [hr4]; exact Int.tmod_eq_emod_of_nonneg hpcr.1
  have w5' : IntKind.u32.wrap r4 = r4 := by rw [hr4, IntKind.wrap_u32]; omega
  clear hS hR
  have d0 : (x.c0 != 0) = false := by simpa using z0
  have d1 : (r4 != 0) = false := by rw [hr4]; simpa using hr4z
  have d2 : decide ((n : Int) * 128 - 4 < x.pc) = false := decide_eq_false (by omega)
  have p1' : decide (1 ≤ i.op) = true := decide_eq_true hop.1
  have p2' : decide (i.op ≤ 12) = true := decide_eq_true hop.2
  rw [show decide (Im.Right i) = false from decide_eq_false hRi] at KI
  clear hRi hop hs _hb hbl hn1 hn64 _hrv _hc0 hpcr _hc5 hcnr hr4 hr4z tab z0 z2
  go_enter Tryz.func9, Tryz.ntmps9
  go_upto_region 1 with fail
  clear hu
  go_wp2_with (first
    | ((with_reducible refine wpList_load_blk (o := ⟨some 22, .load 26 (.tmp 3), _, _, _, none⟩) rfl _ _ rfl w.heap.size 26 x.cells _ ?_ ?_ Tryz.underlying26 rfl (cpu_sz _) ?_); rfl; exact b3)
    | ((with_reducible refine wpList_load_blk (o := ⟨some 23, .load 29 (.tmp 4), _, _, _, none⟩) rfl _ _ rfl (w.heap.size + 1) 29 [.slice A n c] _ ?_ ?_ Tryz.underlying29 rfl mem_sz ?_); rfl; exact b4)
    | (go_at_call 10; clear eo; (with_reducible refine (KR.out _).mono ?_); rintro e w1 ⟨rfl, l1⟩; replace b3 := b3.keep l1; replace b4 := b4.keep l1; replace b5 := b5.keep l1; replace lw := Later.trans_ lw l1; have e0 := b3.cell (j := 0) (v := .int .u32 x.pc) rfl; have e17 := b3.cell (j := 17) (v := .int .u32 x.c0) rfl; have e27 := b3.cell (j := 27) (v := .bool x.wt) rfl; have e28 := b3.cell (j := 28) (v := .bool x.hl) rfl; (try rw [hwt] at e27); (try rw [hhl] at e28); have em := b4.cell (j := 0) (v := .slice A n c) rfl; have eo := b5.cell (j := 0) (v := .int .i64 i.op) rfl)
    | ((with_reducible refine wpList_load_g (o := ⟨some 67, .load 70 (.tmp 5), _, _, _, _⟩) _ _ rfl (w.heap.size + 1 + 1) 70 [.int .i64 i.op, .int .i64 i.a, .int .i64 i.b, .int .i64 i.c, .int .i64 i.imm] _ ?_ ?_ ?_ Tryz.underlying70 ?_ (ins_sz5 _ _ _ _ _) ?_); rfl; rfl; exact b5; rfl)
    | (go_at_call 25; clear e0 e17 e27 e28 em eo; (with_reducible refine (KI.out _).mono ?_); rintro e w2 ⟨rfl, l1⟩; replace b3 := b3.keep l1; replace b4 := b4.keep l1; replace b5 := b5.keep l1; replace lw := Later.trans_ lw l1)
    | (go_at_call 11; (try clear e0 e17 e27 e28 em eo); refine (KS.out _ lw).mono ?_; rintro e w3 ⟨rfl, l1⟩; replace lw := Later.trans_ lw l1))
  go_ret
  exact ⟨rfl, lw⟩
set_option maxRecDepth 100000 in
set_option maxHeartbeats 16000000 in
theorem comp_n6 (x : Cpu) (A : Option Addr) (n c : Nat) (b : Wm.Bs) (i : Im.I) (w : World) (_hrv : x.Rv) (_hc0 : 0 ≤ x.c0 ∧ x.c0 ≤ 4294967295) (hpcr : 0 ≤ x.pc ∧ x.pc ≤ 4294967295) (_hc5 : Tm.isE x.c5) (hs : Sl w 128 A n (U b)) (_hb : Wm.isBs b) (tab : Tab w) (hS : ∀ w', Tab w' → Calls Tryz.prog 11 #[] w' fun e w'' => e = .returned (.bool true) ∧ Later w' w'') (hR : RightB x n = true) (z0 : x.c0 = 0) (hr4z : x.pc % 4 = 0) (z2 : x.pc ≤ (n : Int) * 128 - 4) (hwt : x.wt = false) (hhl : x.hl = false) (hop : i.op = 16) (hRi : ¬ Im.Right i) :
    Calls Tryz.prog 9 #[.agg x.cells.toArray, .agg #[.slice A n c], .agg #[.int .i64 i.op, .int .i64 i.a, .int .i64 i.b, .int .i64 i.c, .int .i64 i.imm]] w fun e w' => e = .returned (.bool true) ∧ Later w w' := by
  have KS := Lib.hid fun w' (l : Later w w') => hS w' (tab.keep l)
  have KR := Lib.hid fun w' => cright_any x A n c w'
  have KI := Lib.hid fun w' => refRight_any i w'
  have KE := Lib.hid fun w' => refEncode_any i w'
  have b3 := ((Blk.new w 26 x.cells.toArray x.cells rfl).alloc (.cells #[.slice A n c] 29)).alloc (.cells #[.int .i64 i.op, .int .i64 i.a, .int .i64 i.b, .int .i64 i.c, .int .i64 i.imm] 70)
  have b4 := (Blk.new' (w.alloc (.cells x.cells.toArray 26)) (w.heap.size + 1) 29 #[.slice A n c] [.slice A n c] (by simp) rfl).alloc (.cells #[.int .i64 i.op, .int .i64 i.a, .int .i64 i.b, .int .i64 i.c, .int .i64 i.imm] 70)
  have b5 := Blk.new' ((w.alloc (.cells x.cells.toArray 26)).alloc (.cells #[.slice A n c] 29)) (w.heap.size + 1 + 1) 70 #[.int .i64 i.op, .int .i64 i.a, .int .i64 i.b, .int .i64 i.c, .int .i64 i.imm] [.int .i64 i.op, .int .i64 i.a, .int .i64 i.b, .int .i64 i.c, .int .i64 i.imm] (by simp) rfl
  have lw := ((later1 w (.cells x.cells.toArray 26)).alloc (by simp) (.cells #[.slice A n c] 29)).alloc (by simp; omega) (.cells #[.int .i64 i.op, .int .i64 i.a, .int .i64 i.b, .int .i64 i.c, .int .i64 i.imm] 70)
  obtain ⟨u0, hu⟩ : ∃ u0, ((w.alloc (.cells x.cells.toArray 26)).alloc (.cells #[.slice A n c] 29)).alloc (.cells #[.int .i64 i.op, .int .i64 i.a, .int .i64 i.b, .int .i64 i.c, .int .i64 i.imm] 70) = u0 := ⟨_, rfl⟩
  rw [hu] at b3 b4 b5 lw
  have eo := b5.cell (j := 0) (v := .int .i64 i.op) rfl
  rw [hR] at KR
  unfold RightB okC at hR
  simp only [Bool.and_eq_true, decide_eq_true_eq] at hR
  have hn1 : 1 ≤ n := hR.2.2.1
  have hn64 : n ≤ 64 := hR.2.2.2
  have hcnr : 0 ≤ x.cn ∧ x.cn < 1099511627776 := ⟨hR.1.2.2.2.2.1, hR.2.1⟩
  have hbl : b.length = n * 128 := by have := hs.1; rw [U_length] at this; exact this
  have w1' : IntKind.i64.wrap ((n : Int) * 128) = (n : Int) * 128 := by rw [IntKind.wrap_i64]; omega
  have w2' : IntKind.i64.wrap ((n : Int) * 128 - 4) = (n : Int) * 128 - 4 := by rw [IntKind.wrap_i64]; omega
  have w3' : IntKind.i64.wrap x.pc = x.pc := by rw [IntKind.wrap_i64]; omega
  obtain ⟨r4, hr4⟩ : ∃ z, z = x.pc % 4 := ⟨_, rfl⟩
  have w4' : x.pc.tmod 4 = r4 := by rw [hr4]; exact Int.tmod_eq_emod_of_nonneg hpcr.1
  have w5' : IntKind.u32.wrap r4 = r4 := by rw [hr4, IntKind.wrap_u32]; omega
  clear hS hR
  have d0 : (x.c0 != 0) = false := by simpa using z0
  have d1 : (r4 != 0) = false := by rw [hr4]; simpa using hr4z
  have d2 : decide ((n : Int) * 128 - 4 < x.pc) = false := decide_eq_false (by omega)
  have p1' : decide (1 ≤ i.op) = true := decide_eq_true (by omega)
  have p2' : decide (i.op ≤ 12) = false := decide_eq_false (by omega)
  have p3' : (i.op != 16) = false := by rw [hop]; decide
  rw [show decide (Im.Right i) = false from decide_eq_false hRi] at KI
  clear hRi hop hs _hb hbl hn1 hn64 _hrv _hc0 hpcr _hc5 hcnr hr4 hr4z tab z0 z2
  go_enter Tryz.func9, Tryz.ntmps9
  go_upto_region 1 with fail
  clear hu
  go_wp2_with (first
    | ((with_reducible refine wpList_load_blk (o := ⟨some 22, .load 26 (.tmp 3), _, _, _, none⟩) rfl _ _ rfl w.heap.size 26 x.cells _ ?_ ?_ Tryz.underlying26 rfl (cpu_sz _) ?_); rfl; exact b3)
    | ((with_reducible refine wpList_load_blk (o := ⟨some 23, .load 29 (.tmp 4), _, _, _, none⟩) rfl _ _ rfl (w.heap.size + 1) 29 [.slice A n c] _ ?_ ?_ Tryz.underlying29 rfl mem_sz ?_); rfl; exact b4)
    | (go_at_call 10; clear eo; (with_reducible refine (KR.out _).mono ?_); rintro e w1 ⟨rfl, l1⟩; replace b3 := b3.keep l1; replace b4 := b4.keep l1; replace b5 := b5.keep l1; replace lw := Later.trans_ lw l1; have e0 := b3.cell (j := 0) (v := .int .u32 x.pc) rfl; have e17 := b3.cell (j := 17) (v := .int .u32 x.c0) rfl; have e27 := b3.cell (j := 27) (v := .bool x.wt) rfl; have e28 := b3.cell (j := 28) (v := .bool x.hl) rfl; (try rw [hwt] at e27); (try rw [hhl] at e28); have em := b4.cell (j := 0) (v := .slice A n c) rfl; have eo := b5.cell (j := 0) (v := .int .i64 i.op) rfl)
    | ((with_reducible refine wpList_load_g (o := ⟨some 67, .load 70 (.tmp 5), _, _, _, _⟩) _ _ rfl (w.heap.size + 1 + 1) 70 [.int .i64 i.op, .int .i64 i.a, .int .i64 i.b, .int .i64 i.c, .int .i64 i.imm] _ ?_ ?_ ?_ Tryz.underlying70 ?_ (ins_sz5 _ _ _ _ _) ?_); rfl; rfl; exact b5; rfl)
    | (go_at_call 25; clear e0 e17 e27 e28 em eo; (with_reducible refine (KI.out _).mono ?_); rintro e w2 ⟨rfl, l1⟩; replace b3 := b3.keep l1; replace b4 := b4.keep l1; replace b5 := b5.keep l1; replace lw := Later.trans_ lw l1)
    | (go_at_call 11; (try clear e0 e17 e27 e28 em eo); refine (KS.out _ lw).mono ?_; rintro e w3 ⟨rfl, l1⟩; replace lw := Later.trans_ lw l1))
  go_ret
  exact ⟨rfl, lw⟩
set_option maxRecDepth 100000 in
set_option maxHeartbeats 16000000 in
theorem comp_n7 (x : Cpu) (A : Option Addr) (n c : Nat) (b : Wm.Bs) (i : Im.I) (w : World) (_hrv : x.Rv) (_hc0 : 0 ≤ x.c0 ∧ x.c0 ≤ 4294967295) (hpcr : 0 ≤ x.pc ∧ x.pc ≤ 4294967295) (_hc5 : Tm.isE x.c5) (hs : Sl w 128 A n (U b)) (_hb : Wm.isBs b) (tab : Tab w) (hS : ∀ w', Tab w' → Calls Tryz.prog 11 #[] w' fun e w'' => e = .returned (.bool true) ∧ Later w' w'') (hR : RightB x n = true) (z0 : x.c0 = 0) (hr4z : x.pc % 4 = 0) (z2 : x.pc ≤ (n : Int) * 128 - 4) (hwt : x.wt = false) (hhl : x.hl = false) (o1 : 1 ≤ i.op) (o2 : ¬ i.op ≤ 12) (o3 : ¬ i.op = 16) :
    Calls Tryz.prog 9 #[.agg x.cells.toArray, .agg #[.slice A n c], .agg #[.int .i64 i.op, .int .i64 i.a, .int .i64 i.b, .int .i64 i.c, .int .i64 i.imm]] w fun e w' => e = .returned (.bool true) ∧ Later w w' := by
  have KS := Lib.hid fun w' (l : Later w w') => hS w' (tab.keep l)
  have KR := Lib.hid fun w' => cright_any x A n c w'
  have KI := Lib.hid fun w' => refRight_any i w'
  have KE := Lib.hid fun w' => refEncode_any i w'
  have b3 := ((Blk.new w 26 x.cells.toArray x.cells rfl).alloc (.cells #[.slice A n c] 29)).alloc (.cells #[.int .i64 i.op, .int .i64 i.a, .int .i64 i.b, .int .i64 i.c, .int .i64 i.imm] 70)
  have b4 := (Blk.new' (w.alloc (.cells x.cells.toArray 26)) (w.heap.size + 1) 29 #[.slice A n c] [.slice A n c] (by simp) rfl).alloc (.cells #[.int .i64 i.op, .int .i64 i.a, .int .i64 i.b, .int .i64 i.c, .int .i64 i.imm] 70)
  have b5 := Blk.new' ((w.alloc (.cells x.cells.toArray 26)).alloc (.cells #[.slice A n c] 29)) (w.heap.size + 1 + 1) 70 #[.int .i64 i.op, .int .i64 i.a, .int .i64 i.b, .int .i64 i.c, .int .i64 i.imm] [.int .i64 i.op, .int .i64 i.a, .int .i64 i.b, .int .i64 i.c, .int .i64 i.imm] (by simp) rfl
  have lw := ((later1 w (.cells x.cells.toArray 26)).alloc (by simp) (.cells #[.slice A n c] 29)).alloc (by simp; omega) (.cells #[.int .i64 i.op, .int .i64 i.a, .int .i64 i.b, .int .i64 i.c, .int .i64 i.imm] 70)
  obtain ⟨u0, hu⟩ : ∃ u0, ((w.alloc (.cells x.cells.toArray 26)).alloc (.cells #[.slice A n c] 29)).alloc (.cells #[.int .i64 i.op, .int .i64 i.a, .int .i64 i.b, .int .i64 i.c, .int .i64 i.imm] 70) = u0 := ⟨_, rfl⟩
  rw [hu] at b3 b4 b5 lw
  have eo := b5.cell (j := 0) (v := .int .i64 i.op) rfl
  rw [hR] at KR
  unfold RightB okC at hR
  simp only [Bool.and_eq_true, decide_eq_true_eq] at hR
  have hn1 : 1 ≤ n := hR.2.2.1
  have hn64 : n ≤ 64 := hR.2.2.2
  have hcnr : 0 ≤ x.cn ∧ x.cn < 1099511627776 := ⟨hR.1.2.2.2.2.1, hR.2.1⟩
  have hbl : b.length = n * 128 := by have := hs.1; rw [U_length] at this; exact this
  have w1' : IntKind.i64.wrap ((n : Int) * 128) = (n : Int) * 128 := by rw [IntKind.wrap_i64]; omega
  have w2' : IntKind.i64.wrap ((n : Int) * 128 - 4) = (n : Int) * 128 - 4 := by rw [IntKind.wrap_i64]; omega
  have w3' : IntKind.i64.wrap x.pc = x.pc := by rw [IntKind.wrap_i64]; omega
  obtain ⟨r4, hr4⟩ : ∃ z, z = x.pc % 4 := ⟨_, rfl⟩
  have w4' : x.pc.tmod 4 = r4 := by rw [hr4]; exact Int.tmod_eq_emod_of_nonneg hpcr.1
  have w5' : IntKind.u32.wrap r4 = r4 := by rw [hr4, IntKind.wrap_u32]; omega
  clear hS hR
  have d0 : (x.c0 != 0) = false := by simpa using z0
  have d1 : (r4 != 0) = false := by rw [hr4]; simpa using hr4z
  have d2 : decide ((n : Int) * 128 - 4 < x.pc) = false := decide_eq_false (by omega)
  have p1' : decide (1 ≤ i.op) = true := decide_eq_true o1
  have p2' : decide (i.op ≤ 12) = false := decide_eq_false o2
  have p3' : (i.op != 16) = true := by simpa using o3
  go_enter Tryz.func9, Tryz.ntmps9
  go_upto_region 1 with fail
  clear hu
  go_wp2_with (first
    | ((with_reducible refine wpList_load_blk (o := ⟨some 22, .load 26 (.tmp 3), _, _, _, none⟩) rfl _ _ rfl w.heap.size 26 x.cells _ ?_ ?_ Tryz.underlying26 rfl (cpu_sz _) ?_); rfl; exact b3)
    | ((with_reducible refine wpList_load_blk (o := ⟨some 23, .load 29 (.tmp 4), _, _, _, none⟩) rfl _ _ rfl (w.heap.size + 1) 29 [.slice A n c] _ ?_ ?_ Tryz.underlying29 rfl mem_sz ?_); rfl; exact b4)
    | (go_at_call 10; clear eo; (with_reducible refine (KR.out _).mono ?_); rintro e w1 ⟨rfl, l1⟩; replace b3 := b3.keep l1; replace b4 := b4.keep l1; replace b5 := b5.keep l1; replace lw := Later.trans_ lw l1; have e0 := b3.cell (j := 0) (v := .int .u32 x.pc) rfl; have e17 := b3.cell (j := 17) (v := .int .u32 x.c0) rfl; have e27 := b3.cell (j := 27) (v := .bool x.wt) rfl; have e28 := b3.cell (j := 28) (v := .bool x.hl) rfl; (try rw [hwt] at e27); (try rw [hhl] at e28); have em := b4.cell (j := 0) (v := .slice A n c) rfl; have eo := b5.cell (j := 0) (v := .int .i64 i.op) rfl)
    | ((with_reducible refine wpList_load_g (o := ⟨some 67, .load 70 (.tmp 5), _, _, _, _⟩) _ _ rfl (w.heap.size + 1 + 1) 70 [.int .i64 i.op, .int .i64 i.a, .int .i64 i.b, .int .i64 i.c, .int .i64 i.imm] _ ?_ ?_ ?_ Tryz.underlying70 ?_ (ins_sz5 _ _ _ _ _) ?_); rfl; rfl; exact b5; rfl)
    | (go_at_call 25; clear e0 e17 e27 e28 em eo; (with_reducible refine (KI.out _).mono ?_); rintro e w2 ⟨rfl, l1⟩; replace b3 := b3.keep l1; replace b4 := b4.keep l1; replace b5 := b5.keep l1; replace lw := Later.trans_ lw l1)
    | (go_at_call 11; (try clear e0 e17 e27 e28 em eo); refine (KS.out _ lw).mono ?_; rintro e w3 ⟨rfl, l1⟩; replace lw := Later.trans_ lw l1))
  go_ret
  exact ⟨rfl, lw⟩
set_option maxRecDepth 100000 in
set_option maxHeartbeats 16000000 in
theorem comp_n8 (x : Cpu) (A : Option Addr) (n c : Nat) (b : Wm.Bs) (i : Im.I) (w : World) (_hrv : x.Rv) (_hc0 : 0 ≤ x.c0 ∧ x.c0 ≤ 4294967295) (hpcr : 0 ≤ x.pc ∧ x.pc ≤ 4294967295) (_hc5 : Tm.isE x.c5) (hs : Sl w 128 A n (U b)) (_hb : Wm.isBs b) (tab : Tab w) (hS : ∀ w', Tab w' → Calls Tryz.prog 11 #[] w' fun e w'' => e = .returned (.bool true) ∧ Later w' w'') (hR : RightB x n = true) (z0 : x.c0 = 0) (hr4z : x.pc % 4 = 0) (z2 : x.pc ≤ (n : Int) * 128 - 4) (hwt : x.wt = false) (hhl : x.hl = false) (o1 : ¬ 1 ≤ i.op) :
    Calls Tryz.prog 9 #[.agg x.cells.toArray, .agg #[.slice A n c], .agg #[.int .i64 i.op, .int .i64 i.a, .int .i64 i.b, .int .i64 i.c, .int .i64 i.imm]] w fun e w' => e = .returned (.bool true) ∧ Later w w' := by
  have KS := Lib.hid fun w' (l : Later w w') => hS w' (tab.keep l)
  have KR := Lib.hid fun w' => cright_any x A n c w'
  have KI := Lib.hid fun w' => refRight_any i w'
  have KE := Lib.hid fun w' => refEncode_any i w'
  have b3 := ((Blk.new w 26 x.cells.toArray x.cells rfl).alloc (.cells #[.slice A n c] 29)).alloc (.cells #[.int .i64 i.op, .int .i64 i.a, .int .i64 i.b, .int .i64 i.c, .int .i64 i.imm] 70)
  have b4 := (Blk.new' (w.alloc (.cells x.cells.toArray 26)) (w.heap.size + 1) 29 #[.slice A n c] [.slice A n c] (by simp) rfl).alloc (.cells #[.int .i64 i.op, .int .i64 i.a, .int .i64 i.b, .int .i64 i.c, .int .i64 i.imm] 70)
  have b5 := Blk.new' ((w.alloc (.cells x.cells.toArray 26)).alloc (.cells #[.slice A n c] 29)) (w.heap.size + 1 + 1) 70 #[.int .i64 i.op, .int .i64 i.a, .int .i64 i.b, .int .i64 i.c, .int .i64 i.imm] [.int .i64 i.op, .int .i64 i.a, .int .i64 i.b, .int .i64 i.c, .int .i64 i.imm] (by simp) rfl
  have lw := ((later1 w (.cells x.cells.toArray 26)).alloc (by simp) (.cells #[.slice A n c] 29)).alloc (by simp; omega) (.cells #[.int .i64 i.op, .int .i64 i.a, .int .i64 i.b, .int .i64 i.c, .int .i64 i.imm] 70)
  obtain ⟨u0, hu⟩ : ∃ u0, ((w.alloc (.cells x.cells.toArray 26)).alloc (.cells #[.slice A n c] 29)).alloc (.cells #[.int .i64 i.op, .int .i64 i.a, .int .i64 i.b, .int .i64 i.c, .int .i64 i.imm] 70) = u0 := ⟨_, rfl⟩
  rw [hu] at b3 b4 b5 lw
  have eo := b5.cell (j := 0) (v := .int .i64 i.op) rfl
  rw [hR] at KR
  unfold RightB okC at hR
  simp only [Bool.and_eq_true, decide_eq_true_eq] at hR
  have hn1 : 1 ≤ n := hR.2.2.1
  have hn64 : n ≤ 64 := hR.2.2.2
  have hcnr : 0 ≤ x.cn ∧ x.cn < 1099511627776 := ⟨hR.1.2.2.2.2.1, hR.2.1⟩
  have hbl : b.length = n * 128 := by have := hs.1; rw [U_length] at this; exact this
  have w1' : IntKind.i64.wrap ((n : Int) * 128) = (n : Int) * 128 := by rw [IntKind.wrap_i64]; omega
  have w2' : IntKind.i64.wrap ((n : Int) * 128 - 4) = (n : Int) * 128 - 4 := by rw [IntKind.wrap_i64]; omega
  have w3' : IntKind.i64.wrap x.pc = x.pc := by rw [IntKind.wrap_i64]; omega
  obtain ⟨r4, hr4⟩ : ∃ z, z = x.pc % 4 := ⟨_, rfl⟩
  have w4' : x.pc.tmod 4 = r4 := by rw [hr4]; exact Int.tmod_eq_emod_of_nonneg hpcr.1
  have w5' : IntKind.u32.wrap r4 = r4 := by rw [hr4, IntKind.wrap_u32]; omega
  clear hS hR
  have d0 : (x.c0 != 0) = false := by simpa using z0
  have d1 : (r4 != 0) = false := by rw [hr4]; simpa using hr4z
  have d2 : decide ((n : Int) * 128 - 4 < x.pc) = false := decide_eq_false (by omega)
  have p1' : decide (1 ≤ i.op) = false := decide_eq_false o1
  have p3' : (i.op != 16) = true := by simp; omega
  go_enter Tryz.func9, Tryz.ntmps9
  go_upto_region 1 with fail
  clear hu
  go_wp2_with (first
    | ((with_reducible refine wpList_load_blk (o := ⟨some 22, .load 26 (.tmp 3), _, _, _, none⟩) rfl _ _ rfl w.heap.size 26 x.cells _ ?_ ?_ Tryz.underlying26 rfl (cpu_sz _) ?_); rfl; exact b3)
    | ((with_reducible refine wpList_load_blk (o := ⟨some 23, .load 29 (.tmp 4), _, _, _, none⟩) rfl _ _ rfl (w.heap.size + 1) 29 [.slice A n c] _ ?_ ?_ Tryz.underlying29 rfl mem_sz ?_); rfl; exact b4)
    | (go_at_call 10; clear eo; (with_reducible refine (KR.out _).mono ?_); rintro e w1 ⟨rfl, l1⟩; replace b3 := b3.keep l1; replace b4 := b4.keep l1; replace b5 := b5.keep l1; replace lw := Later.trans_ lw l1; have e0 := b3.cell (j := 0) (v := .int .u32 x.pc) rfl; have e17 := b3.cell (j := 17) (v := .int .u32 x.c0) rfl; have e27 := b3.cell (j := 27) (v := .bool x.wt) rfl; have e28 := b3.cell (j := 28) (v := .bool x.hl) rfl; (try rw [hwt] at e27); (try rw [hhl] at e28); have em := b4.cell (j := 0) (v := .slice A n c) rfl; have eo := b5.cell (j := 0) (v := .int .i64 i.op) rfl)
    | ((with_reducible refine wpList_load_g (o := ⟨some 67, .load 70 (.tmp 5), _, _, _, _⟩) _ _ rfl (w.heap.size + 1 + 1) 70 [.int .i64 i.op, .int .i64 i.a, .int .i64 i.b, .int .i64 i.c, .int .i64 i.imm] _ ?_ ?_ ?_ Tryz.underlying70 ?_ (ins_sz5 _ _ _ _ _) ?_); rfl; rfl; exact b5; rfl)
    | (go_at_call 25; clear e0 e17 e27 e28 em eo; (with_reducible refine (KI.out _).mono ?_); rintro e w2 ⟨rfl, l1⟩; replace b3 := b3.keep l1; replace b4 := b4.keep l1; replace b5 := b5.keep l1; replace lw := Later.trans_ lw l1)
    | (go_at_call 11; (try clear e0 e17 e27 e28 em eo); refine (KS.out _ lw).mono ?_; rintro e w3 ⟨rfl, l1⟩; replace lw := Later.trans_ lw l1))
  go_ret
  exact ⟨rfl, lw⟩
end Go.Proofs.YtbhhhpglljkcpaaGreatDoor
