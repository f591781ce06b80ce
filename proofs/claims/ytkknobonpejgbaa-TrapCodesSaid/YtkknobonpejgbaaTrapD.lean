/-
  PROCESSORS: the reference's Enter and Return; Ready, and the reference's.
-/
import Derived.Test.YtkknobonpejgbaaTrapC
namespace Go.Proofs.Ytkknobonpejgbaa
open Go.RowKit Go.ChangeShapes Go.WideShapes Go.ChangeAt

set_option maxRecDepth 100000 in
set_option maxHeartbeats 1000000 in
theorem renter_any (x : Cpu) (ca va ep : Int) (w : World) (h : Tm.isE x.c5) : Calls Try.prog 18 #[.agg x.cells.toArray, .int .u32 ca, .int .u32 va, .int .u32 ep] w fun e w' => e = .returned (.agg (Cpu.enter x ca va ep).cells.toArray) ∧ Later w w' := by
  have HH0 : ∀ w' : World, Calls Try.prog 32 #[.int .u32 x.c5, .int .i64 0] w' fun e w'' => e = .returned (.bool (Tm.has x.c5 1)) ∧ w' = w'' := fun w' => rset_any x.c5 1 0 w' rfl h (by omega)
  have HH := Lib.hid HH0
  clear HH0
  clear h
  have b4 := (Blk.new w 26 x.cells.toArray x.cells rfl).alloc (.cells zC.cells.toArray 26)
  have b8 := Blk.new' (w.alloc (.cells x.cells.toArray 26)) (w.heap.size + 1) 26 zC.cells.toArray zC.cells (by simp) rfl
  have lw := (later1 w (.cells x.cells.toArray 26)).alloc (by simp) (.cells zC.cells.toArray 26)
  obtain ⟨s, hs⟩ : ∃ s, s = Tm.has x.c5 1 := ⟨_, rfl⟩
  have hx : (Cpu.enter x ca va ep) = ({ x with c5 := (b32 s 2 + b32 x.u 4), c3 := ca, c4 := va, c2 := ep, pc := x.c1, u := false, wt := false } : Cpu) := by rw [hs]; rfl
  rw [hx]
  rw [← hs] at HH
  clear hs hx
  have HW1 := Lib.hid fun w' => rone_any s 2 w'
  have HW2 := Lib.hid fun w' => rone_any x.u 4 w'
  have hadd := add_24 s x.u
  go_enter Try.func18, Try.ntmps18
  go_wp2_with (first
    | ((with_reducible refine wpList_load_blk (o := ⟨some 10, .load 26 (.tmp 4), _, _, _, none⟩) rfl _ _ rfl w.heap.size 26 x.cells _ ?_ ?_ Try.underlying26 rfl (cpu_sz _) ?_); rfl; exact b4) | ((with_reducible refine wpList_store_abs (o := ⟨none, .store 26 (.tmp 9) (.tmp 10), _, _, _, none⟩) rfl _ _ _ rfl (w.heap.size + 1 + 1) 26 zC.cells x.cells ?_ ?_ ?_ ?_ ?_ ?_ ?_); rfl; rfl; exact (Blk.new' _ _ _ _ _ (by simp) rfl); exact cpu_sz _; rfl; exact cpu_one _; intro w1 b9 o1; replace b4 := (b4.alloc (.cells zC.cells.toArray 26)).only o1 (by omega); replace b8 := (b8.alloc (.cells zC.cells.toArray 26)).only o1 (by omega); replace lw := Below.only (lw.alloc lw.size (.cells zC.cells.toArray 26)) o1 (by omega)))
  replace b4 := b4.drew
  replace b8 := b8.drew
  replace b9 := b9.drew
  replace lw := lw.drew
  refine wp_region_held_drew (S := fun w' => w'.cell? ⟨w.heap.size, 22, none⟩ = some (.int .u32 x.c5) ∧ w'.cell? ⟨w.heap.size, 26, none⟩ = some (.bool x.u)) (by kernel_rfl) ⟨b4.cell (j := 22) (v := .int .u32 x.c5) rfl, b4.cell (j := 26) (v := .bool x.u) rfl⟩ (fun hHeld => ?_)
  refine wpAnyH_take (i := 0) (oi := ⟨some 11, .fieldAddr 26 (.tmp 4) 2, _, _, _, none⟩) (v := .pointer (some ⟨w.heap.size, 17, none⟩)) rfl (by kernel_rfl) (by kernel_rfl) (by kernel_rfl) (fun _ _ _ h => h) (Or.inl ⟨by rfl, fun w _ => by go_simp⟩) hHeld ?_
  simp only [Act.put, List.setIfInBounds_toArray, List.set_cons_zero, List.set_cons_succ]
  refine wpAnyH_take (i := 1) (oi := ⟨some 12, .indexAddr 24 (.tmp 11) (.const (.int .i64 5)), _, _, _, none⟩) (v := .pointer (some ⟨w.heap.size, 22, none⟩)) rfl (by kernel_rfl) (by kernel_rfl) (by kernel_rfl) (fun _ _ _ h => h) (Or.inl ⟨by rfl, fun w _ => by go_simp⟩) hHeld ?_
  simp only [Act.put, List.setIfInBounds_toArray, List.set_cons_zero, List.set_cons_succ]
  refine wpAnyH_take (i := 2) (oi := ⟨some 13, .load 22 (.tmp 12), _, _, _, none⟩) (v := .int .u32 x.c5) rfl (by kernel_rfl) (by kernel_rfl) (by kernel_rfl) (fun _ _ _ h => h) (Or.inl ⟨by rfl, fun w hSw => by have e1 := hSw.1; clear hSw; go_simp⟩) hHeld ?_
  simp only [Act.put, List.setIfInBounds_toArray, List.set_cons_zero, List.set_cons_succ]
  refine wpAnyH_take (i := 5) (oi := ⟨some 16, .fieldAddr 26 (.tmp 4) 3, _, _, _, none⟩) (v := .pointer (some ⟨w.heap.size, 26, none⟩)) rfl (by kernel_rfl) (by kernel_rfl) (by kernel_rfl) (fun _ _ _ h => h) (Or.inl ⟨by rfl, fun w _ => by go_simp⟩) hHeld ?_
  simp only [Act.put, List.setIfInBounds_toArray, List.set_cons_zero, List.set_cons_succ]
  refine wpAnyH_take (i := 6) (oi := ⟨some 17, .load 4 (.tmp 16), _, _, _, none⟩) (v := .bool x.u) rfl (by kernel_rfl) (by kernel_rfl) (by kernel_rfl) (fun _ _ _ h => h) (Or.inl ⟨by rfl, fun w hSw => by have e1 := hSw.2; clear hSw; go_simp⟩) hHeld ?_
  simp only [Act.put, List.setIfInBounds_toArray, List.set_cons_zero, List.set_cons_succ]
  refine wpAnyH_take (i := 9) (oi := ⟨some 20, .fieldAddr 26 (.tmp 9) 2, _, _, _, none⟩) (v := .pointer (some ⟨(w.heap.size + 1 + 1), 17, none⟩)) rfl (by kernel_rfl) (by kernel_rfl) (by kernel_rfl) (fun _ _ _ h => h) (Or.inl ⟨by rfl, fun w _ => by go_simp⟩) hHeld ?_
  simp only [Act.put, List.setIfInBounds_toArray, List.set_cons_zero, List.set_cons_succ]
  refine wpAnyH_ready (rs := [3]) (by kernel_rfl) (by simp) (AllReadyH.cons (o := ⟨some 14, .call { callee := .value (.func 32), args := #[.tmp 13, .const (.int .i64 0)], argTypes := #[22, 3] }, _, _, _, none⟩) rfl (fun K' hK => ?_) AllReadyH.nil)
  go_simp
  refine (HH.out _).mono ?_
  rintro e v2 ⟨rfl, rfl⟩
  refine hK.out _ _ ⟨b4.cell (j := 22) (v := .int .u32 x.c5) rfl, b4.cell (j := 26) (v := .bool x.u) rfl⟩ (fun hHeld => ?_)
  clear hK K'
  try simp only [Act.put, List.setIfInBounds_toArray, List.set_cons_zero, List.set_cons_succ]
  refine wpAnyH_ready (rs := [4]) (by kernel_rfl) (by simp) (AllReadyH.cons (o := ⟨some 15, .call { callee := .value (.func 34), args := #[.tmp 14, .const (.int .u32 2)], argTypes := #[4, 22] }, _, _, _, none⟩) rfl (fun K' hK => ?_) AllReadyH.nil)
  go_simp
  refine (HW1.out _).mono ?_
  rintro e v2 ⟨rfl, rfl⟩
  refine hK.out _ _ ⟨b4.cell (j := 22) (v := .int .u32 x.c5) rfl, b4.cell (j := 26) (v := .bool x.u) rfl⟩ (fun hHeld => ?_)
  clear hK K'
  try simp only [Act.put, List.setIfInBounds_toArray, List.set_cons_zero, List.set_cons_succ]
  refine wpAnyH_ready (rs := [7]) (by kernel_rfl) (by simp) (AllReadyH.cons (o := ⟨some 18, .call { callee := .value (.func 34), args := #[.tmp 17, .const (.int .u32 4)], argTypes := #[4, 22] }, _, _, _, none⟩) rfl (fun K' hK => ?_) AllReadyH.nil)
  go_simp
  refine (HW2.out _).mono ?_
  rintro e v2 ⟨rfl, rfl⟩
  refine hK.out _ _ ⟨b4.cell (j := 22) (v := .int .u32 x.c5) rfl, b4.cell (j := 26) (v := .bool x.u) rfl⟩ (fun hHeld => ?_)
  clear hK K'
  try simp only [Act.put, List.setIfInBounds_toArray, List.set_cons_zero, List.set_cons_succ]
  refine wpAnyH_take (i := 8) (oi := ⟨some 19, .binOp .add 22 (.tmp 15) (.tmp 18) 22, _, _, _, none⟩) (v := .int .u32 (b32 s 2 + b32 x.u 4)) rfl (by kernel_rfl) (by kernel_rfl) (by kernel_rfl) (fun _ _ _ h => h) (Or.inl ⟨by rfl, fun w _ => by go_simp⟩) hHeld ?_
  simp only [Act.put, List.setIfInBounds_toArray, List.set_cons_zero, List.set_cons_succ]
  refine wpAnyH_take (i := 10) (oi := ⟨some 21, .indexAddr 24 (.tmp 20) (.const (.int .i64 5)), _, _, _, none⟩) (v := .pointer (some ⟨(w.heap.size + 1 + 1), 22, none⟩)) rfl (by kernel_rfl) (by kernel_rfl) (by kernel_rfl) (fun _ _ _ h => h) (Or.inl ⟨by rfl, fun w _ => by go_simp⟩) hHeld ?_
  simp only [Act.put, List.setIfInBounds_toArray, List.set_cons_zero, List.set_cons_succ]
  refine wpAnyH_ready (rs := [11]) (by kernel_rfl) (by simp) (AllReadyH.cons (o := ⟨none, .store 22 (.tmp 21) (.tmp 19), _, _, _, none⟩) rfl (fun K' hK => ?_) AllReadyH.nil)
  have e1 := b9.cell (j := 22) (v := .int .u32 x.c5) rfl
  have f1 := b9.frz 22
  go_simp
  clear e1 f1
  replace b9 : Blk _ (w.heap.size + 1 + 1) 26 ({ x with c5 := (b32 s 2 + b32 x.u 4) } : Cpu).cells := b9.set 22 (.int .u32 (b32 s 2 + b32 x.u 4))
  replace b8 := b8.set_other ⟨(w.heap.size + 1 + 1), 22, none⟩ (.int .u32 (b32 s 2 + b32 x.u 4)) (by first | (simp; done) | (simp; omega))
  replace lw := lw.setCell (p := ⟨(w.heap.size + 1 + 1), 22, none⟩) (by first | (simp; done) | (simp; omega)) (.int .u32 (b32 s 2 + b32 x.u 4))
  replace b4 := b4.set_other ⟨(w.heap.size + 1 + 1), 22, none⟩ (.int .u32 (b32 s 2 + b32 x.u 4)) (by simp; omega)
  refine hK.out _ _ ⟨b4.cell (j := 22) (v := .int .u32 x.c5) rfl, b4.cell (j := 26) (v := .bool x.u) rfl⟩ (fun hHeld => ?_)
  clear hK K'
  try simp only [Act.put, List.setIfInBounds_toArray, List.set_cons_zero, List.set_cons_succ]
  refine wpAnyH_done (by kernel_rfl) ?_ _
  clear hHeld
  obtain ⟨u1, hu1⟩ : ∃ u1, u1 = (w1.setCell ⟨(w.heap.size + 1 + 1), 22, none⟩ (.int .u32 (b32 s 2 + b32 x.u 4))).drew := ⟨_, rfl⟩
  rw [← hu1]
  replace b4 : Blk u1 w.heap.size 26 x.cells := by
    rw [hu1]
    exact b4
  replace b8 : Blk u1 (w.heap.size + 1) 26 zC.cells := by
    rw [hu1]
    exact b8
  replace b9 : Blk u1 (w.heap.size + 1 + 1) 26 ({ x with c5 := (b32 s 2 + b32 x.u 4) } : Cpu).cells := by
    rw [hu1]
    exact b9
  replace lw : Later w u1 := by
    rw [hu1]
    exact lw
  clear hu1
  have e10 := b9.cell (j := 20) (v := .int .u32 x.c3) rfl
  have f10 := b9.frz 20
  have e11 := b9.cell (j := 21) (v := .int .u32 x.c4) rfl
  have f11 := b9.frz 21
  have e12 := b9.cell (j := 19) (v := .int .u32 x.c2) rfl
  have f12 := b9.frz 19
  have e13 := b9.cell (j := 0) (v := .int .u32 x.pc) rfl
  have f13 := b9.frz 0
  have e14 := b9.cell (j := 26) (v := .bool x.u) rfl
  have f14 := b9.frz 26
  have e15 := b9.cell (j := 27) (v := .bool x.wt) rfl
  have f15 := b9.frz 27
  have e16 := b4.cell (j := 18) (v := .int .u32 x.c1) rfl
  have f16 := b4.frz 18
  clear HH HW1 HW2 hadd b4
  go_upto_region 9 with fail
  obtain ⟨u2, hu2⟩ : ∃ u2, u2 = ((((((u1.setCell ⟨(w.heap.size + 1 + 1), 20, none⟩ (.int .u32 ca)).setCell ⟨(w.heap.size + 1 + 1), 21, none⟩ (.int .u32 va)).setCell ⟨(w.heap.size + 1 + 1), 19, none⟩ (.int .u32 ep)).setCell ⟨(w.heap.size + 1 + 1), 0, none⟩ (.int .u32 x.c1)).setCell ⟨(w.heap.size + 1 + 1), 26, none⟩ (.bool false)).setCell ⟨(w.heap.size + 1 + 1), 27, none⟩ (.bool false)) := ⟨_, rfl⟩
  rw [← hu2]
  have b5 : Blk u2 (w.heap.size + 1 + 1) 26 ({ x with c5 := (b32 s 2 + b32 x.u 4), c3 := ca, c4 := va, c2 := ep, pc := x.c1, u := false, wt := false } : Cpu).cells := by
    rw [hu2]
    exact ((((((b9.set 20 (.int .u32 ca)).set 21 (.int .u32 va)).set 19 (.int .u32 ep)).set 0 (.int .u32 x.c1)).set 26 (.bool false)).set 27 (.bool false))
  replace b8 : Blk u2 (w.heap.size + 1) 26 zC.cells := by
    rw [hu2]
    exact ((((((b8.set_other ⟨(w.heap.size + 1 + 1), 20, none⟩ (.int .u32 ca) (by first | (simp; done) | (simp; omega))).set_other ⟨(w.heap.size + 1 + 1), 21, none⟩ (.int .u32 va) (by first | (simp; done) | (simp; omega))).set_other ⟨(w.heap.size + 1 + 1), 19, none⟩ (.int .u32 ep) (by first | (simp; done) | (simp; omega))).set_other ⟨(w.heap.size + 1 + 1), 0, none⟩ (.int .u32 x.c1) (by first | (simp; done) | (simp; omega))).set_other ⟨(w.heap.size + 1 + 1), 26, none⟩ (.bool false) (by first | (simp; done) | (simp; omega))).set_other ⟨(w.heap.size + 1 + 1), 27, none⟩ (.bool false) (by first | (simp; done) | (simp; omega)))
  replace lw : Later w u2 := by
    rw [hu2]
    exact ((((((lw.setCell (p := ⟨(w.heap.size + 1 + 1), 20, none⟩) (by first | (simp; done) | (simp; omega)) (.int .u32 ca)).setCell (p := ⟨(w.heap.size + 1 + 1), 21, none⟩) (by first | (simp; done) | (simp; omega)) (.int .u32 va)).setCell (p := ⟨(w.heap.size + 1 + 1), 19, none⟩) (by first | (simp; done) | (simp; omega)) (.int .u32 ep)).setCell (p := ⟨(w.heap.size + 1 + 1), 0, none⟩) (by first | (simp; done) | (simp; omega)) (.int .u32 x.c1)).setCell (p := ⟨(w.heap.size + 1 + 1), 26, none⟩) (by first | (simp; done) | (simp; omega)) (.bool false)).setCell (p := ⟨(w.heap.size + 1 + 1), 27, none⟩) (by first | (simp; done) | (simp; omega)) (.bool false))
  clear hu2 b9 e10 f10 e11 f11 e12 f12 e13 f13 e14 f14 e15 f15 e16 f16
  obtain ⟨Y, hY⟩ : ∃ Y : Cpu, Y = ({ x with c5 := (b32 s 2 + b32 x.u 4), c3 := ca, c4 := va, c2 := ep, pc := x.c1, u := false, wt := false } : Cpu) := ⟨_, rfl⟩
  have HY := Lib.hid hY
  rw [← hY] at b5
  clear hY
  go_wp2_with (first
    | ((with_reducible refine wpList_load_blk (o := ⟨some 37, .load 26 (.tmp 9), _, _, _, none⟩) rfl _ _ rfl (w.heap.size + 1 + 1) 26 Y.cells _ ?_ ?_ Try.underlying26 rfl (cpu_sz _) ?_); rfl; exact b5)
    | ((with_reducible refine wpList_store_abs (o := ⟨none, .store 26 (.tmp 8) (.tmp 37), _, _, _, none⟩) rfl _ _ _ rfl (w.heap.size + 1) 26 zC.cells Y.cells ?_ ?_ ?_ ?_ ?_ ?_ ?_); rfl; rfl; exact b8; exact cpu_sz _; rfl; exact cpu_one _; intro w9 b9 o9))
  have hl : Later w w9 := Below.only lw o9 (by omega)
  exact bodyPost_ret (cpu_ret Try.results18 _ _ (w.heap.size + 1) Y rfl b9) rfl ⟨by rw [HY.out], hl⟩
set_option maxRecDepth 100000 in
set_option maxHeartbeats 1000000 in
theorem rreturn_any (x : Cpu) (w : World) (h : Tm.isE x.c5) : Calls Try.prog 20 #[.agg x.cells.toArray] w fun e w' => e = .returned (.agg (Cpu.back x).cells.toArray) ∧ Later w w' := by
  have HH40 : ∀ w' : World, Calls Try.prog 32 #[.int .u32 x.c5, .int .i64 2] w' fun e w'' => e = .returned (.bool (Tm.has x.c5 4)) ∧ w' = w'' := fun w' => rset_any x.c5 4 2 w' rfl h (by omega)
  have HH4 := Lib.hid HH40
  clear HH40
  have HH20 : ∀ w' : World, Calls Try.prog 32 #[.int .u32 x.c5, .int .i64 1] w' fun e w'' => e = .returned (.bool (Tm.has x.c5 2)) ∧ w' = w'' := fun w' => rset_any x.c5 2 1 w' rfl h (by omega)
  have HH2 := Lib.hid HH20
  clear HH20
  obtain ⟨s4, hs4⟩ : ∃ s, s = Tm.has x.c5 4 := ⟨_, rfl⟩
  rw [← hs4] at HH4
  clear h
  have b4 := (Blk.new w 26 x.cells.toArray x.cells rfl).alloc (.cells zC.cells.toArray 26)
  have b8 := Blk.new' (w.alloc (.cells x.cells.toArray 26)) (w.heap.size + 1) 26 zC.cells.toArray zC.cells (by simp) rfl
  have lw := (later1 w (.cells x.cells.toArray 26)).alloc (by simp) (.cells zC.cells.toArray 26)
  obtain ⟨s2, hs2⟩ : ∃ s, s = Tm.has x.c5 2 := ⟨_, rfl⟩
  have hx : (Cpu.back x) = ({ x with pc := x.c2, u := s4, c5 := (b32 s2 1 + 2) } : Cpu) := by rw [hs4, hs2]; rfl
  rw [hx]
  rw [← hs2] at HH2
  clear hs2 hs4 hx
  have HW1 := Lib.hid fun w' => rone_any s2 1 w'
  have hadd := add_12 s2
  go_enter Try.func20, Try.ntmps20
  go_upto_region 5 with (first
    | ((with_reducible refine wpList_load_blk (o := ⟨some 4, .load 26 (.tmp 1), _, _, _, none⟩) rfl _ _ rfl w.heap.size 26 x.cells _ ?_ ?_ Try.underlying26 rfl (cpu_sz _) ?_); rfl; exact b4) | ((with_reducible refine wpList_store_abs (o := ⟨none, .store 26 (.tmp 3) (.tmp 4), _, _, _, none⟩) rfl _ _ _ rfl (w.heap.size + 1 + 1) 26 zC.cells x.cells ?_ ?_ ?_ ?_ ?_ ?_ ?_); rfl; rfl; exact (Blk.new' _ _ _ _ _ (by simp) rfl); exact cpu_sz _; rfl; exact cpu_one _; intro w1 b9 o1; replace b4 := (b4.alloc (.cells zC.cells.toArray 26)).only o1 (by omega); replace b8 := (b8.alloc (.cells zC.cells.toArray 26)).only o1 (by omega); replace lw := Below.only (lw.alloc lw.size (.cells zC.cells.toArray 26)) o1 (by omega); have e10 := b4.cell (j := 19) (v := .int .u32 x.c2) rfl; have f10 := b4.frz 19; have e11 := b9.cell (j := 0) (v := .int .u32 x.pc) rfl; have f11 := b9.frz 0; have e12 := b4.cell (j := 22) (v := .int .u32 x.c5) rfl; have f12 := b4.frz 22; have e13 := b9.cell (j := 26) (v := .bool x.u) rfl; have f13 := b9.frz 26; have e14 := b9.cell (j := 22) (v := .int .u32 x.c5) rfl; have f14 := b9.frz 22; clear b4)
    | (go_at_call 32; first | ((with_reducible refine (HH4.out _).mono ?_); rintro e v3 ⟨rfl, rfl⟩) | ((with_reducible refine (HH2.out _).mono ?_); rintro e v3 ⟨rfl, rfl⟩))
    | (go_at_call 34; refine (HW1.out _).mono ?_; rintro e v4 ⟨rfl, rfl⟩))
  obtain ⟨u2, hu2⟩ : ∃ u2, u2 = (((w1.setCell ⟨(w.heap.size + 1 + 1), 0, none⟩ (.int .u32 x.c2)).setCell ⟨(w.heap.size + 1 + 1), 26, none⟩ (.bool s4)).setCell ⟨(w.heap.size + 1 + 1), 22, none⟩ (.int .u32 (b32 s2 1 + 2))) := ⟨_, rfl⟩
  rw [← hu2]
  have b5 : Blk u2 (w.heap.size + 1 + 1) 26 ({ x with pc := x.c2, u := s4, c5 := (b32 s2 1 + 2) } : Cpu).cells := by
    rw [hu2]
    exact (((b9.set 0 (.int .u32 x.c2)).set 26 (.bool s4)).set 22 (.int .u32 (b32 s2 1 + 2)))
  replace b8 : Blk u2 (w.heap.size + 1) 26 zC.cells := by
    rw [hu2]
    exact (((b8.set_other ⟨(w.heap.size + 1 + 1), 0, none⟩ (.int .u32 x.c2) (by first | (simp; done) | (simp; omega))).set_other ⟨(w.heap.size + 1 + 1), 26, none⟩ (.bool s4) (by first | (simp; done) | (simp; omega))).set_other ⟨(w.heap.size + 1 + 1), 22, none⟩ (.int .u32 (b32 s2 1 + 2)) (by first | (simp; done) | (simp; omega)))
  replace lw : Later w u2 := by
    rw [hu2]
    exact (((lw.setCell (p := ⟨(w.heap.size + 1 + 1), 0, none⟩) (by first | (simp; done) | (simp; omega)) (.int .u32 x.c2)).setCell (p := ⟨(w.heap.size + 1 + 1), 26, none⟩) (by first | (simp; done) | (simp; omega)) (.bool s4)).setCell (p := ⟨(w.heap.size + 1 + 1), 22, none⟩) (by first | (simp; done) | (simp; omega)) (.int .u32 (b32 s2 1 + 2)))
  clear hu2 b9 e10 f10 e11 f11 e12 f12 e13 f13 e14 f14
  obtain ⟨Y, hY⟩ : ∃ Y : Cpu, Y = ({ x with pc := x.c2, u := s4, c5 := (b32 s2 1 + 2) } : Cpu) := ⟨_, rfl⟩
  have HY := Lib.hid hY
  rw [← hY] at b5
  clear hY
  go_wp2_with (first
    | ((with_reducible refine wpList_load_blk (o := ⟨some 22, .load 26 (.tmp 3), _, _, _, none⟩) rfl _ _ rfl (w.heap.size + 1 + 1) 26 Y.cells _ ?_ ?_ Try.underlying26 rfl (cpu_sz _) ?_); rfl; exact b5)
    | ((with_reducible refine wpList_store_abs (o := ⟨none, .store 26 (.tmp 2) (.tmp 22), _, _, _, none⟩) rfl _ _ _ rfl (w.heap.size + 1) 26 zC.cells Y.cells ?_ ?_ ?_ ?_ ?_ ?_ ?_); rfl; rfl; exact b8; exact cpu_sz _; rfl; exact cpu_one _; intro w9 b9 o9))
  have hl : Later w w9 := Below.only lw o9 (by omega)
  exact bodyPost_ret (cpu_ret Try.results20 _ _ (w.heap.size + 1) Y rfl b9) rfl ⟨by rw [HY.out], hl⟩
end Go.Proofs.Ytkknobonpejgbaa
