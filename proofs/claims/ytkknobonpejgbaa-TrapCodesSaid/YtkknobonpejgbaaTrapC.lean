/-
  PROCESSORS: Enter, Return, and the reference's.
-/
import Derived.Test.YtkknobonpejgbaaTrapB
import Derived.Deep.RegionHeld
namespace Go.Proofs.Ytkknobonpejgbaa
open Go.RowKit Go.ChangeShapes Go.WideShapes Go.ChangeAt

theorem wp_load_blk {P : Program} {o : Oper} {a : Act} {w : World} {K : Act → World → Prop} {Q : Exit → Act → World → Prop} (ty : TypeId) (x : Operand) (ho : o.op = .load ty x)
    (g : Nat) (t : TypeId) (cs : List Value) (d : TypeDesc) (hx : a.eval x = .pointer (some ⟨g, 0, none⟩)) (hg : Blk w g t cs)
    (hu : P.underlying ty = some d) (hd : (match d with | .struct _ | .array _ _ => true | _ => false) = true) (hi : (P.info? ty).map (·.size) = some cs.length)
    (h : K (a.put o.dst (.agg cs.toArray)) w) : o.wp P a w K Q :=
  wp_load_row ty x ho g hx t cs.toArray (0, 0) d hg hu hd (by rw [List.size_toArray]; exact hi) h
/-- A processor after a trap. -/
def Cpu.enter (x : Cpu) (ca va ep : Int) : Cpu := { x with c5 := b32 (Tm.has x.c5 1) 2 + b32 x.u 4, c3 := ca, c4 := va, c2 := ep, pc := x.c1, u := false, wt := false }
/-- A processor after a trap has been left. -/
def Cpu.back (x : Cpu) : Cpu := { x with pc := x.c2, u := Tm.has x.c5 4, c5 := b32 (Tm.has x.c5 2) 1 + 2 }
theorem or_24 (s t : Bool) : bits .or .u32 (b32 s 2) (b32 t 4) = b32 s 2 + b32 t 4 := by cases s <;> cases t <;> decide +kernel
theorem or_12 (s : Bool) : bits .or .u32 (b32 s 1) 2 = b32 s 1 + 2 := by cases s <;> decide +kernel
theorem add_24 (s t : Bool) : IntKind.u32.wrap (b32 s 2 + b32 t 4) = b32 s 2 + b32 t 4 := by cases s <;> cases t <;> decide +kernel
theorem add_12 (s : Bool) : IntKind.u32.wrap (b32 s 1 + 2) = b32 s 1 + 2 := by cases s <;> decide +kernel
theorem has_bit (x : Cpu) (k : Nat) (M : Int) (hM : M = ((2 ^ k : Nat) : Int)) (hk : k < 32) (h : Tm.isE x.c5) (w : World) : Calls Try.prog 31 #[.agg x.cells.toArray, .int .u32 M] w fun e w' => e = .returned (.bool (Tm.has x.c5 M)) ∧ Later w w' := by
  rw [← has_bits h k M hM hk]
  exact has_any x M w
set_option maxRecDepth 100000 in
set_option maxHeartbeats 1000000 in
theorem enter_any (x : Cpu) (ca va ep : Int) (w : World) (h : Tm.isE x.c5) : Calls Try.prog 17 #[.agg x.cells.toArray, .int .u32 ca, .int .u32 va, .int .u32 ep] w fun e w' => e = .returned (.agg (Cpu.enter x ca va ep).cells.toArray) ∧ Later w w' := by
  have HH := Lib.hid fun w' => has_bit x 0 1 rfl (by omega) h w'
  clear h
  have b4 := (Blk.new w 26 x.cells.toArray x.cells rfl).alloc (.cells zC.cells.toArray 26)
  have b8 := Blk.new' (w.alloc (.cells x.cells.toArray 26)) (w.heap.size + 1) 26 zC.cells.toArray zC.cells (by simp) rfl
  have lw := (later1 w (.cells x.cells.toArray 26)).alloc (by simp) (.cells zC.cells.toArray 26)
  obtain ⟨s, hs⟩ : ∃ s, s = Tm.has x.c5 1 := ⟨_, rfl⟩
  have hx : (Cpu.enter x ca va ep) = ({ x with c5 := (b32 s 2 + b32 x.u 4), c3 := ca, c4 := va, c2 := ep, pc := x.c1, u := false, wt := false } : Cpu) := by rw [hs]; rfl
  rw [hx]
  rw [← hs] at HH
  clear hs hx
  have HW1 := Lib.hid fun w' => when_any s 2 w'
  have HW2 := Lib.hid fun w' => when_any x.u 4 w'
  have hor := or_24 s x.u
  go_enter Try.func17, Try.ntmps17
  go_wp2
  obtain ⟨u0, hu⟩ : ∃ u0, (w.alloc (.cells x.cells.toArray 26)).alloc (.cells zC.cells.toArray 26) = u0 := ⟨_, rfl⟩
  rw [hu] at b4 b8 lw
  have hu2 : (w.alloc (.cells x.cells.toArray 26)).alloc (.cells #[.int .u32 0, .int .u32 0, .int .u32 0, .int .u32 0, .int .u32 0, .int .u32 0, .int .u32 0, .int .u32 0, .int .u32 0, .int .u32 0, .int .u32 0, .int .u32 0, .int .u32 0, .int .u32 0, .int .u32 0, .int .u32 0, .int .u32 0, .int .u32 0, .int .u32 0, .int .u32 0, .int .u32 0, .int .u32 0, .int .u32 0, .int .u32 0, .int .u32 0, .int .u32 0, .bool false, .bool false, .bool false, .int .i64 0] 26) = u0 := hu
  rw [hu2]
  clear hu hu2
  replace b4 := b4.drew
  replace b8 := b8.drew
  replace lw := lw.drew
  refine wp_region_held_drew (S := fun w' => w'.cell? ⟨w.heap.size, 26, none⟩ = some (.bool x.u)) (by kernel_rfl) (b4.cell (j := 26) (v := .bool x.u) rfl) (fun hHeld => ?_)
  refine wpAnyH_take (i := 3) (oi := ⟨some 12, .fieldAddr 26 (.tmp 4) 3, _, _, _, none⟩) (v := .pointer (some ⟨w.heap.size, 26, none⟩)) rfl (by kernel_rfl) (by kernel_rfl) (by kernel_rfl) (fun _ _ _ h => h) (Or.inl ⟨by rfl, fun w _ => by go_simp⟩) hHeld ?_
  simp only [Act.put, List.setIfInBounds_toArray, List.set_cons_zero, List.set_cons_succ]
  refine wpAnyH_take (i := 4) (oi := ⟨some 13, .load 4 (.tmp 12), _, _, _, none⟩) (v := .bool x.u) rfl (by kernel_rfl) (by kernel_rfl) (by kernel_rfl) (fun _ _ _ h => h) (Or.inl ⟨by rfl, fun w hSw => by have e1 := hSw; clear hSw; go_simp⟩) hHeld ?_
  simp only [Act.put, List.setIfInBounds_toArray, List.set_cons_zero, List.set_cons_succ]
  refine wpAnyH_take (i := 7) (oi := ⟨some 16, .fieldAddr 26 (.tmp 4) 2, _, _, _, none⟩) (v := .pointer (some ⟨w.heap.size, 17, none⟩)) rfl (by kernel_rfl) (by kernel_rfl) (by kernel_rfl) (fun _ _ _ h => h) (Or.inl ⟨by rfl, fun w _ => by go_simp⟩) hHeld ?_
  simp only [Act.put, List.setIfInBounds_toArray, List.set_cons_zero, List.set_cons_succ]
  refine wpAnyH_ready (rs := [0]) (by kernel_rfl) (by simp) (AllReadyH.cons (o := ⟨some 9, .load 26 (.tmp 4), _, _, _, none⟩) rfl (fun K' hK => ?_) AllReadyH.nil)
  refine wp_load_blk 26 _ rfl w.heap.size 26 x.cells _ rfl b4 Try.underlying26 rfl (cpu_sz _) ?_
  refine hK.out _ _ (b4.cell (j := 26) (v := .bool x.u) rfl) (fun hHeld => ?_)
  clear hK K'
  try simp only [Act.put, List.setIfInBounds_toArray, List.set_cons_zero, List.set_cons_succ]
  refine wpAnyH_ready (rs := [1]) (by kernel_rfl) (by simp) (AllReadyH.cons (o := ⟨some 10, .call { callee := .value (.func 31), args := #[.tmp 9, .const (.int .u32 1)], argTypes := #[26, 22] }, _, _, _, none⟩) rfl (fun K' hK => ?_) AllReadyH.nil)
  go_simp
  refine (HH.out _).mono ?_
  rintro e v1 ⟨rfl, l1⟩
  replace b4 := b4.keep l1
  replace b8 := b8.keep l1
  replace lw := Later.trans_ lw l1
  refine hK.out _ _ (b4.cell (j := 26) (v := .bool x.u) rfl) (fun hHeld => ?_)
  clear hK K'
  try simp only [Act.put, List.setIfInBounds_toArray, List.set_cons_zero, List.set_cons_succ]
  refine wpAnyH_ready (rs := [2]) (by kernel_rfl) (by simp) (AllReadyH.cons (o := ⟨some 11, .call { callee := .value (.func 33), args := #[.tmp 10, .const (.int .u32 2)], argTypes := #[4, 22] }, _, _, _, none⟩) rfl (fun K' hK => ?_) AllReadyH.nil)
  go_simp
  refine (HW1.out _).mono ?_
  rintro e v2 ⟨rfl, rfl⟩
  refine hK.out _ _ (b4.cell (j := 26) (v := .bool x.u) rfl) (fun hHeld => ?_)
  clear hK K'
  try simp only [Act.put, List.setIfInBounds_toArray, List.set_cons_zero, List.set_cons_succ]
  refine wpAnyH_ready (rs := [5]) (by kernel_rfl) (by simp) (AllReadyH.cons (o := ⟨some 14, .call { callee := .value (.func 33), args := #[.tmp 13, .const (.int .u32 4)], argTypes := #[4, 22] }, _, _, _, none⟩) rfl (fun K' hK => ?_) AllReadyH.nil)
  go_simp
  refine (HW2.out _).mono ?_
  rintro e v2 ⟨rfl, rfl⟩
  refine hK.out _ _ (b4.cell (j := 26) (v := .bool x.u) rfl) (fun hHeld => ?_)
  clear hK K'
  try simp only [Act.put, List.setIfInBounds_toArray, List.set_cons_zero, List.set_cons_succ]
  refine wpAnyH_take (i := 6) (oi := ⟨some 15, .binOp .or 22 (.tmp 11) (.tmp 14) 22, _, _, _, none⟩) (v := .int .u32 (b32 s 2 + b32 x.u 4)) rfl (by kernel_rfl) (by kernel_rfl) (by kernel_rfl) (fun _ _ _ h => h) (Or.inl ⟨by rfl, fun w _ => by go_simp⟩) hHeld ?_
  simp only [Act.put, List.setIfInBounds_toArray, List.set_cons_zero, List.set_cons_succ]
  refine wpAnyH_take (i := 8) (oi := ⟨some 17, .indexAddr 24 (.tmp 16) (.const (.int .i64 5)), _, _, _, none⟩) (v := .pointer (some ⟨w.heap.size, 22, none⟩)) rfl (by kernel_rfl) (by kernel_rfl) (by kernel_rfl) (fun _ _ _ h => h) (Or.inl ⟨by rfl, fun w _ => by go_simp⟩) hHeld ?_
  simp only [Act.put, List.setIfInBounds_toArray, List.set_cons_zero, List.set_cons_succ]
  refine wpAnyH_ready (rs := [9]) (by kernel_rfl) (by simp) (AllReadyH.cons (o := ⟨none, .store 22 (.tmp 17) (.tmp 15), _, _, _, none⟩) rfl (fun K' hK => ?_) AllReadyH.nil)
  have e1 := b4.cell (j := 22) (v := .int .u32 x.c5) rfl
  have f1 := b4.frz 22
  go_simp
  clear e1 f1
  replace b4 : Blk _ w.heap.size 26 ({ x with c5 := (b32 s 2 + b32 x.u 4) } : Cpu).cells := b4.set 22 (.int .u32 (b32 s 2 + b32 x.u 4))
  replace b8 := b8.set_other ⟨w.heap.size, 22, none⟩ (.int .u32 (b32 s 2 + b32 x.u 4)) (by simp)
  replace lw := lw.setCell (p := ⟨w.heap.size, 22, none⟩) (by simp) (.int .u32 (b32 s 2 + b32 x.u 4))
  refine hK.out _ _ (b4.cell (j := 26) (v := .bool x.u) rfl) (fun hHeld => ?_)
  clear hK K'
  try simp only [Act.put, List.setIfInBounds_toArray, List.set_cons_zero, List.set_cons_succ]
  refine wpAnyH_done (by kernel_rfl) ?_ _
  clear hHeld
  obtain ⟨u1, hu1⟩ : ∃ u1, u1 = v1.setCell ⟨w.heap.size, 22, none⟩ (.int .u32 (b32 s 2 + b32 x.u 4)) := ⟨_, rfl⟩
  rw [← hu1] at b4 b8 lw ⊢
  clear hu1
  have e10 := b4.cell (j := 20) (v := .int .u32 x.c3) rfl
  have f10 := b4.frz 20
  have e11 := b4.cell (j := 21) (v := .int .u32 x.c4) rfl
  have f11 := b4.frz 21
  have e12 := b4.cell (j := 19) (v := .int .u32 x.c2) rfl
  have f12 := b4.frz 19
  have e13 := b4.cell (j := 0) (v := .int .u32 x.pc) rfl
  have f13 := b4.frz 0
  have e14 := b4.cell (j := 26) (v := .bool x.u) rfl
  have f14 := b4.frz 26
  have e15 := b4.cell (j := 27) (v := .bool x.wt) rfl
  have f15 := b4.frz 27
  have e16 := b4.cell (j := 18) (v := .int .u32 x.c1) rfl
  have f16 := b4.frz 18
  clear HH HW1 HW2 hor l1
  go_upto_region 5 with fail
  obtain ⟨u2, hu2⟩ : ∃ u2, u2 = ((((((u1.setCell ⟨w.heap.size, 20, none⟩ (.int .u32 ca)).setCell ⟨w.heap.size, 21, none⟩ (.int .u32 va)).setCell ⟨w.heap.size, 19, none⟩ (.int .u32 ep)).setCell ⟨w.heap.size, 0, none⟩ (.int .u32 x.c1)).setCell ⟨w.heap.size, 26, none⟩ (.bool false)).setCell ⟨w.heap.size, 27, none⟩ (.bool false)) := ⟨_, rfl⟩
  rw [← hu2]
  have b5 : Blk u2 w.heap.size 26 ({ x with c5 := (b32 s 2 + b32 x.u 4), c3 := ca, c4 := va, c2 := ep, pc := x.c1, u := false, wt := false } : Cpu).cells := by
    rw [hu2]
    exact ((((((b4.set 20 (.int .u32 ca)).set 21 (.int .u32 va)).set 19 (.int .u32 ep)).set 0 (.int .u32 x.c1)).set 26 (.bool false)).set 27 (.bool false))
  replace b8 : Blk u2 (w.heap.size + 1) 26 zC.cells := by
    rw [hu2]
    exact ((((((b8.set_other ⟨w.heap.size, 20, none⟩ (.int .u32 ca) (by simp)).set_other ⟨w.heap.size, 21, none⟩ (.int .u32 va) (by simp)).set_other ⟨w.heap.size, 19, none⟩ (.int .u32 ep) (by simp)).set_other ⟨w.heap.size, 0, none⟩ (.int .u32 x.c1) (by simp)).set_other ⟨w.heap.size, 26, none⟩ (.bool false) (by simp)).set_other ⟨w.heap.size, 27, none⟩ (.bool false) (by simp))
  replace lw : Later w u2 := by
    rw [hu2]
    exact ((((((lw.setCell (p := ⟨w.heap.size, 20, none⟩) (by simp) (.int .u32 ca)).setCell (p := ⟨w.heap.size, 21, none⟩) (by simp) (.int .u32 va)).setCell (p := ⟨w.heap.size, 19, none⟩) (by simp) (.int .u32 ep)).setCell (p := ⟨w.heap.size, 0, none⟩) (by simp) (.int .u32 x.c1)).setCell (p := ⟨w.heap.size, 26, none⟩) (by simp) (.bool false)).setCell (p := ⟨w.heap.size, 27, none⟩) (by simp) (.bool false))
  clear hu2 b4 e10 f10 e11 f11 e12 f12 e13 f13 e14 f14 e15 f15 e16 f16
  obtain ⟨Y, hY⟩ : ∃ Y : Cpu, Y = ({ x with c5 := (b32 s 2 + b32 x.u 4), c3 := ca, c4 := va, c2 := ep, pc := x.c1, u := false, wt := false } : Cpu) := ⟨_, rfl⟩
  have HY := Lib.hid hY
  rw [← hY] at b5
  clear hY
  go_wp2_with (first
    | ((with_reducible refine wpList_load_blk (o := ⟨some 33, .load 26 (.tmp 4), _, _, _, none⟩) rfl _ _ rfl w.heap.size 26 Y.cells _ ?_ ?_ Try.underlying26 rfl (cpu_sz _) ?_); rfl; exact b5)
    | ((with_reducible refine wpList_store_abs (o := ⟨none, .store 26 (.tmp 8) (.tmp 33), _, _, _, none⟩) rfl _ _ _ rfl (w.heap.size + 1) 26 zC.cells Y.cells ?_ ?_ ?_ ?_ ?_ ?_ ?_); rfl; rfl; exact b8; exact cpu_sz _; rfl; exact cpu_one _; intro w9 b9 o9))
  have hl : Later w w9 := Below.only lw o9 (by omega)
  exact bodyPost_ret (cpu_ret Try.results17 _ _ (w.heap.size + 1) Y rfl b9) rfl ⟨by rw [HY.out], hl⟩
set_option maxRecDepth 100000 in
set_option maxHeartbeats 1000000 in
theorem return_any (x : Cpu) (w : World) (h : Tm.isE x.c5) : Calls Try.prog 19 #[.agg x.cells.toArray] w fun e w' => e = .returned (.agg (Cpu.back x).cells.toArray) ∧ Later w w' := by
  have HH := Lib.hid fun w' => has_bit x 2 4 rfl (by omega) h w'
  obtain ⟨s4, hs4⟩ : ∃ s, s = Tm.has x.c5 4 := ⟨_, rfl⟩
  rw [← hs4] at HH
  have HH2 := Lib.hid fun w' => has_bit ({ x with pc := x.c2, u := s4 } : Cpu) 1 2 rfl (by omega) h w'
  rw [show Tm.has ({ x with pc := x.c2, u := s4 } : Cpu).c5 2 = Tm.has x.c5 2 from rfl] at HH2
  clear h
  have b4 := (Blk.new w 26 x.cells.toArray x.cells rfl).alloc (.cells zC.cells.toArray 26)
  have b8 := Blk.new' (w.alloc (.cells x.cells.toArray 26)) (w.heap.size + 1) 26 zC.cells.toArray zC.cells (by simp) rfl
  have lw := (later1 w (.cells x.cells.toArray 26)).alloc (by simp) (.cells zC.cells.toArray 26)
  obtain ⟨s2, hs2⟩ : ∃ s, s = Tm.has x.c5 2 := ⟨_, rfl⟩
  have hx : (Cpu.back x) = ({ x with pc := x.c2, u := s4, c5 := (b32 s2 1 + 2) } : Cpu) := by rw [hs4, hs2]; rfl
  rw [hx]
  rw [← hs2] at HH2
  clear hs2 hs4 hx
  have HW1 := Lib.hid fun w' => when_any s2 1 w'
  have hor := or_12 s2
  go_enter Try.func19, Try.ntmps19
  go_wp2
  obtain ⟨u0, hu⟩ : ∃ u0, (w.alloc (.cells x.cells.toArray 26)).alloc (.cells zC.cells.toArray 26) = u0 := ⟨_, rfl⟩
  rw [hu] at b4 b8 lw
  have hu2 : (w.alloc (.cells x.cells.toArray 26)).alloc (.cells #[.int .u32 0, .int .u32 0, .int .u32 0, .int .u32 0, .int .u32 0, .int .u32 0, .int .u32 0, .int .u32 0, .int .u32 0, .int .u32 0, .int .u32 0, .int .u32 0, .int .u32 0, .int .u32 0, .int .u32 0, .int .u32 0, .int .u32 0, .int .u32 0, .int .u32 0, .int .u32 0, .int .u32 0, .int .u32 0, .int .u32 0, .int .u32 0, .int .u32 0, .int .u32 0, .bool false, .bool false, .bool false, .int .i64 0] 26) = u0 := hu
  rw [hu2]
  clear hu hu2
  replace b4 := b4.drew
  replace b8 := b8.drew
  replace lw := lw.drew
  refine wp_region_held_drew (S := fun w' => w'.cell? ⟨w.heap.size, 19, none⟩ = some (.int .u32 x.c2)) (by kernel_rfl) (b4.cell (j := 19) (v := .int .u32 x.c2) rfl) (fun hHeld => ?_)
  refine wpAnyH_take (i := 0) (oi := ⟨some 3, .fieldAddr 26 (.tmp 1) 2, _, _, _, none⟩) (v := .pointer (some ⟨w.heap.size, 17, none⟩)) rfl (by kernel_rfl) (by kernel_rfl) (by kernel_rfl) (fun _ _ _ h => h) (Or.inl ⟨by rfl, fun w _ => by go_simp⟩) hHeld ?_
  simp only [Act.put, List.setIfInBounds_toArray, List.set_cons_zero, List.set_cons_succ]
  refine wpAnyH_take (i := 1) (oi := ⟨some 4, .indexAddr 24 (.tmp 3) (.const (.int .i64 2)), _, _, _, none⟩) (v := .pointer (some ⟨w.heap.size, 19, none⟩)) rfl (by kernel_rfl) (by kernel_rfl) (by kernel_rfl) (fun _ _ _ h => h) (Or.inl ⟨by rfl, fun w _ => by go_simp⟩) hHeld ?_
  simp only [Act.put, List.setIfInBounds_toArray, List.set_cons_zero, List.set_cons_succ]
  refine wpAnyH_take (i := 2) (oi := ⟨some 5, .load 22 (.tmp 4), _, _, _, none⟩) (v := .int .u32 x.c2) rfl (by kernel_rfl) (by kernel_rfl) (by kernel_rfl) (fun _ _ _ h => h) (Or.inl ⟨by rfl, fun w hSw => by have e1 := hSw; clear hSw; go_simp⟩) hHeld ?_
  simp only [Act.put, List.setIfInBounds_toArray, List.set_cons_zero, List.set_cons_succ]
  refine wpAnyH_ready (rs := [3]) (by kernel_rfl) (by simp) (AllReadyH.cons (o := ⟨some 6, .load 26 (.tmp 1), _, _, _, none⟩) rfl (fun K' hK => ?_) AllReadyH.nil)
  refine wp_load_blk 26 _ rfl w.heap.size 26 x.cells _ rfl b4 Try.underlying26 rfl (cpu_sz _) ?_
  refine hK.out _ _ (b4.cell (j := 19) (v := .int .u32 x.c2) rfl) (fun hHeld => ?_)
  clear hK K'
  try simp only [Act.put, List.setIfInBounds_toArray, List.set_cons_zero, List.set_cons_succ]
  refine wpAnyH_take (i := 5) (oi := ⟨some 8, .fieldAddr 26 (.tmp 1) 0, _, _, _, none⟩) (v := .pointer (some ⟨w.heap.size, 0, none⟩)) rfl (by kernel_rfl) (by kernel_rfl) (by kernel_rfl) (fun _ _ _ h => h) (Or.inl ⟨by rfl, fun w _ => by go_simp⟩) hHeld ?_
  simp only [Act.put, List.setIfInBounds_toArray, List.set_cons_zero, List.set_cons_succ]
  refine wpAnyH_ready (rs := [4]) (by kernel_rfl) (by simp) (AllReadyH.cons (o := ⟨some 7, .call { callee := .value (.func 31), args := #[.tmp 6, .const (.int .u32 4)], argTypes := #[26, 22] }, _, _, _, none⟩) rfl (fun K' hK => ?_) AllReadyH.nil)
  go_simp
  refine (HH.out _).mono ?_
  rintro e v1 ⟨rfl, l1⟩
  replace b4 := b4.keep l1
  replace b8 := b8.keep l1
  replace lw := Later.trans_ lw l1
  refine hK.out _ _ (b4.cell (j := 19) (v := .int .u32 x.c2) rfl) (fun hHeld => ?_)
  clear hK K'
  try simp only [Act.put, List.setIfInBounds_toArray, List.set_cons_zero, List.set_cons_succ]
  refine wpAnyH_ready (rs := [6]) (by kernel_rfl) (by simp) (AllReadyH.cons (o := ⟨none, .store 22 (.tmp 8) (.tmp 5), _, _, _, none⟩) rfl (fun K' hK => ?_) AllReadyH.nil)
  have e1 := b4.cell (j := 0) (v := .int .u32 x.pc) rfl
  have f1 := b4.frz 0
  go_simp
  clear e1 f1
  replace b4 : Blk _ w.heap.size 26 ({ x with pc := x.c2 } : Cpu).cells := b4.set 0 (.int .u32 x.c2)
  replace b8 := b8.set_other ⟨w.heap.size, 0, none⟩ (.int .u32 x.c2) (by simp)
  replace lw := lw.setCell (p := ⟨w.heap.size, 0, none⟩) (by simp) (.int .u32 x.c2)
  refine hK.out _ _ (b4.cell (j := 19) (v := .int .u32 x.c2) rfl) (fun hHeld => ?_)
  clear hK K'
  try simp only [Act.put, List.setIfInBounds_toArray, List.set_cons_zero, List.set_cons_succ]
  refine wpAnyH_take (i := 7) (oi := ⟨some 9, .fieldAddr 26 (.tmp 1) 3, _, _, _, none⟩) (v := .pointer (some ⟨w.heap.size, 26, none⟩)) rfl (by kernel_rfl) (by kernel_rfl) (by kernel_rfl) (fun _ _ _ h => h) (Or.inl ⟨by rfl, fun w _ => by go_simp⟩) hHeld ?_
  simp only [Act.put, List.setIfInBounds_toArray, List.set_cons_zero, List.set_cons_succ]
  refine wpAnyH_ready (rs := [8]) (by kernel_rfl) (by simp) (AllReadyH.cons (o := ⟨none, .store 4 (.tmp 9) (.tmp 7), _, _, _, none⟩) rfl (fun K' hK => ?_) AllReadyH.nil)
  have e1 := b4.cell (j := 26) (v := .bool x.u) rfl
  have f1 := b4.frz 26
  go_simp
  clear e1 f1
  replace b4 : Blk _ w.heap.size 26 ({ x with pc := x.c2, u := s4 } : Cpu).cells := b4.set 26 (.bool s4)
  replace b8 := b8.set_other ⟨w.heap.size, 26, none⟩ (.bool s4) (by simp)
  replace lw := lw.setCell (p := ⟨w.heap.size, 26, none⟩) (by simp) (.bool s4)
  refine hK.out _ _ (b4.cell (j := 19) (v := .int .u32 x.c2) rfl) (fun hHeld => ?_)
  clear hK K'
  try simp only [Act.put, List.setIfInBounds_toArray, List.set_cons_zero, List.set_cons_succ]
  refine wpAnyH_done (by kernel_rfl) ?_ _
  clear hHeld
  obtain ⟨u1, hu1⟩ : ∃ u1, u1 = (v1.setCell ⟨w.heap.size, 0, none⟩ (.int .u32 x.c2)).setCell ⟨w.heap.size, 26, none⟩ (.bool s4) := ⟨_, rfl⟩
  rw [← hu1] at b4 b8 lw ⊢
  clear hu1 HH l1
  go_upto_region 3 with (first
    | ((with_reducible refine wpList_load_blk (o := ⟨some 10, .load 26 (.tmp 1), _, _, _, none⟩) rfl _ _ rfl w.heap.size 26 ({ x with pc := x.c2, u := s4 } : Cpu).cells _ ?_ ?_ Try.underlying26 rfl (cpu_sz _) ?_); rfl; exact b4)
    | (go_at_call 31; refine (HH2.out _).mono ?_; rintro e v3 ⟨rfl, l3⟩; replace b4 := b4.keep l3; replace b8 := b8.keep l3; replace lw := Later.trans_ lw l3; have e10 := b4.cell (j := 22) (v := .int .u32 x.c5) rfl; have f10 := b4.frz 22)
    | (go_at_call 33; refine (HW1.out _).mono ?_; rintro e v4 ⟨rfl, rfl⟩))
  obtain ⟨u2, hu2⟩ : ∃ u2, u2 = (v3.setCell ⟨w.heap.size, 22, none⟩ (.int .u32 (b32 s2 1 + 2))) := ⟨_, rfl⟩
  rw [← hu2]
  have b5 : Blk u2 w.heap.size 26 ({ x with pc := x.c2, u := s4, c5 := (b32 s2 1 + 2) } : Cpu).cells := by
    rw [hu2]
    exact (b4.set 22 (.int .u32 (b32 s2 1 + 2)))
  replace b8 : Blk u2 (w.heap.size + 1) 26 zC.cells := by
    rw [hu2]
    exact (b8.set_other ⟨w.heap.size, 22, none⟩ (.int .u32 (b32 s2 1 + 2)) (by simp))
  replace lw : Later w u2 := by
    rw [hu2]
    exact (lw.setCell (p := ⟨w.heap.size, 22, none⟩) (by simp) (.int .u32 (b32 s2 1 + 2)))
  clear hu2 b4 e10 f10
  obtain ⟨Y, hY⟩ : ∃ Y : Cpu, Y = ({ x with pc := x.c2, u := s4, c5 := (b32 s2 1 + 2) } : Cpu) := ⟨_, rfl⟩
  have HY := Lib.hid hY
  rw [← hY] at b5
  clear hY
  go_wp2_with (first
    | ((with_reducible refine wpList_load_blk (o := ⟨some 16, .load 26 (.tmp 1), _, _, _, none⟩) rfl _ _ rfl w.heap.size 26 Y.cells _ ?_ ?_ Try.underlying26 rfl (cpu_sz _) ?_); rfl; exact b5)
    | ((with_reducible refine wpList_store_abs (o := ⟨none, .store 26 (.tmp 2) (.tmp 16), _, _, _, none⟩) rfl _ _ _ rfl (w.heap.size + 1) 26 zC.cells Y.cells ?_ ?_ ?_ ?_ ?_ ?_ ?_); rfl; rfl; exact b8; exact cpu_sz _; rfl; exact cpu_one _; intro w9 b9 o9))
  have hl : Later w w9 := Below.only lw o9 (by omega)
  exact bodyPost_ret (cpu_ret Try.results19 _ _ (w.heap.size + 1) Y rfl b9) rfl ⟨by rw [HY.out], hl⟩
end Go.Proofs.Ytkknobonpejgbaa
