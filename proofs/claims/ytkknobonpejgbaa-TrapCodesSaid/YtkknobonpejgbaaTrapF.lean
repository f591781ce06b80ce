/-
  PROCESSORS: Read, Write, and the reference's.
-/
import Derived.Test.YtkknobonpejgbaaTrapE
namespace Go.Proofs.Ytkknobonpejgbaa
open Go.RowKit Go.ChangeShapes Go.WideShapes Go.ChangeAt

/-- A control register. -/
def Cpu.ctl (x : Cpu) (n p : Int) : Int := if n = 0 then x.c0 else if n = 1 then x.c1 else if n = 2 then x.c2 else if n = 3 then x.c3 else if n = 4 then x.c4 else if n = 5 then x.c5 else if n = 6 then x.c6 else if n = 7 then p % 32 else if n = 8 then x.c8 else 0
def errR (n : Int) : Int := if 0 ≤ n ∧ n < 9 then 0 else 1
/-- A processor with another control register. -/
def Cpu.put (x : Cpu) (n v : Int) : Cpu := if n = 0 then { x with c0 := v } else if n = 1 then { x with c1 := v } else if n = 2 then { x with c2 := v } else if n = 3 then { x with c3 := v } else if n = 4 then { x with c4 := v } else if n = 5 then { x with c5 := v % 8 } else if n = 6 then { x with c6 := v } else x
def errW (n : Int) : Int := if 0 ≤ n ∧ n < 7 then 0 else 1
theorem ctl_out {x : Cpu} {n p : Int} (h : ¬ (0 ≤ n ∧ n < 9)) : x.ctl n p = 0 ∧ errR n = 1 := by
  unfold Cpu.ctl errR
  rw [if_neg (by omega), if_neg (by omega), if_neg (by omega), if_neg (by omega), if_neg (by omega), if_neg (by omega), if_neg (by omega), if_neg (by omega), if_neg (by omega), if_neg h]
  exact ⟨rfl, rfl⟩
theorem put_out {x : Cpu} {n v : Int} (h : ¬ (0 ≤ n ∧ n < 7)) : x.put n v = x ∧ errW n = 1 := by
  unfold Cpu.put errW
  rw [if_neg (by omega), if_neg (by omega), if_neg (by omega), if_neg (by omega), if_neg (by omega), if_neg (by omega), if_neg (by omega), if_neg h]
  exact ⟨rfl, rfl⟩
theorem results_cell_tmp {P : Program} {fn : Func} {p q : Tmp} {ty : TypeId} (h : fn.results = #[.cell p ty, .tmp q]) (tmps : Array Value) (w : World) (g : Nat) (t : TypeId) (cs : List Value) (v : Value) (d : TypeDesc)
    (hp : tmps.getD p undef = .pointer (some ⟨g, 0, none⟩)) (hq : tmps.getD q undef = v) (hg : Blk w g t cs)
    (hu : P.underlying ty = some d) (hd : (match d with | .struct _ | .array _ _ => true | _ => false) = true) (hi : (P.info? ty).map (·.size) = some cs.length) :
    (results fn tmps).run P w = .ok (.tuple #[.agg cs.toArray, v]) w := by
  have hp' : tmps[p]?.getD undef = .pointer (some ⟨g, 0, none⟩) := by simpa using hp
  have hq' : tmps[q]?.getD undef = v := by simpa using hq
  simp [results, h, hp', hq', asAddr, run_loadVar_row w g t ty cs.toArray (0, 0) d hg hu hd (by rw [List.size_toArray]; exact hi)]
theorem cpu_ret2 {fn : Func} {p q : Tmp} (h : fn.results = #[.cell p 26, .tmp q]) (tmps : Array Value) (w : World) (B : Nat) (x : Cpu) (v : Value) (hp : tmps.getD p undef = .pointer (some ⟨B, 0, none⟩)) (hq : tmps.getD q undef = v) (hb : Blk w B 26 x.cells) :
    (results fn tmps).run Try.prog w = .ok (.tuple #[.agg x.cells.toArray, v]) w :=
  results_cell_tmp h tmps w B 26 x.cells v _ hp hq hb Try.underlying26 rfl (cpu_sz _)
theorem control_in (n : Int) (h : 0 ≤ n ∧ n < 9) (w : World) : Calls Try.prog 35 #[.int .i64 n] w fun e w' => e = .returned (.bool true) ∧ w = w' := by
  rw [← decide_eq_true h]
  exact isControl_any n w
theorem control_out (n : Int) (h : ¬ (0 ≤ n ∧ n < 9)) (w : World) : Calls Try.prog 35 #[.int .i64 n] w fun e w' => e = .returned (.bool false) ∧ w = w' := by
  rw [← decide_eq_false h]
  exact isControl_any n w
set_option maxRecDepth 100000 in
theorem read_any (x : Cpu) (n p : Int) (w : World) (hp : Tm.isE p) : Calls Try.prog 23 #[.agg x.cells.toArray, .int .i64 n, .int .u32 p] w fun e w' => e = .returned (.tuple #[.int .u32 (x.ctl n p), .int .i64 (errR n)]) ∧ Later w w' := by
  have hb := Blk.new w 26 x.cells.toArray x.cells rfl
  have hand := and31 hp
  by_cases h : 0 ≤ n ∧ n < 9
  · rcases (show n = 0 ∨ n = 1 ∨ n = 2 ∨ n = 3 ∨ n = 4 ∨ n = 5 ∨ n = 6 ∨ n = 7 ∨ n = 8 by omega) with rfl | rfl | rfl | rfl | rfl | rfl | rfl | rfl | rfl
    · have HC := Lib.hid fun w' => control_in 0 h w'
      have k := hb.cell (j := 17) (v := .int .u32 x.c0) rfl
      clear h hb
      go_enter Try.func23, Try.ntmps23
      go_wp2_with (go_at_call 35; refine (HC.out _).mono ?_; rintro e w1 ⟨rfl, rfl⟩)
      go_ret2
      exact ⟨rfl, later1 _ _⟩
    · have HC := Lib.hid fun w' => control_in 1 h w'
      have k := hb.cell (j := 18) (v := .int .u32 x.c1) rfl
      clear h hb
      go_enter Try.func23, Try.ntmps23
      go_wp2_with (go_at_call 35; refine (HC.out _).mono ?_; rintro e w1 ⟨rfl, rfl⟩)
      go_ret2
      exact ⟨rfl, later1 _ _⟩
    · have HC := Lib.hid fun w' => control_in 2 h w'
      have k := hb.cell (j := 19) (v := .int .u32 x.c2) rfl
      clear h hb
      go_enter Try.func23, Try.ntmps23
      go_wp2_with (go_at_call 35; refine (HC.out _).mono ?_; rintro e w1 ⟨rfl, rfl⟩)
      go_ret2
      exact ⟨rfl, later1 _ _⟩
    · have HC := Lib.hid fun w' => control_in 3 h w'
      have k := hb.cell (j := 20) (v := .int .u32 x.c3) rfl
      clear h hb
      go_enter Try.func23, Try.ntmps23
      go_wp2_with (go_at_call 35; refine (HC.out _).mono ?_; rintro e w1 ⟨rfl, rfl⟩)
      go_ret2
      exact ⟨rfl, later1 _ _⟩
    · have HC := Lib.hid fun w' => control_in 4 h w'
      have k := hb.cell (j := 21) (v := .int .u32 x.c4) rfl
      clear h hb
      go_enter Try.func23, Try.ntmps23
      go_wp2_with (go_at_call 35; refine (HC.out _).mono ?_; rintro e w1 ⟨rfl, rfl⟩)
      go_ret2
      exact ⟨rfl, later1 _ _⟩
    · have HC := Lib.hid fun w' => control_in 5 h w'
      have k := hb.cell (j := 22) (v := .int .u32 x.c5) rfl
      clear h hb
      go_enter Try.func23, Try.ntmps23
      go_wp2_with (go_at_call 35; refine (HC.out _).mono ?_; rintro e w1 ⟨rfl, rfl⟩)
      go_ret2
      exact ⟨rfl, later1 _ _⟩
    · have HC := Lib.hid fun w' => control_in 6 h w'
      have k := hb.cell (j := 23) (v := .int .u32 x.c6) rfl
      clear h hb
      go_enter Try.func23, Try.ntmps23
      go_wp2_with (go_at_call 35; refine (HC.out _).mono ?_; rintro e w1 ⟨rfl, rfl⟩)
      go_ret2
      exact ⟨rfl, later1 _ _⟩
    · have HC := Lib.hid fun w' => control_in 7 h w'
      
      clear h hb
      go_enter Try.func23, Try.ntmps23
      go_wp2_with (go_at_call 35; refine (HC.out _).mono ?_; rintro e w1 ⟨rfl, rfl⟩)
      go_ret2
      exact ⟨rfl, later1 _ _⟩
    · have HC := Lib.hid fun w' => control_in 8 h w'
      have k := hb.cell (j := 25) (v := .int .u32 x.c8) rfl
      clear h hb
      go_enter Try.func23, Try.ntmps23
      go_wp2_with (go_at_call 35; refine (HC.out _).mono ?_; rintro e w1 ⟨rfl, rfl⟩)
      go_ret2
      exact ⟨rfl, later1 _ _⟩
  · rw [(ctl_out (x := x) (p := p) h).1, (ctl_out (x := x) (p := p) h).2]
    have HC := Lib.hid fun w' => control_out n h w'
    clear h hb
    go_enter Try.func23, Try.ntmps23
    go_wp2_with (go_at_call 35; refine (HC.out _).mono ?_; rintro e w1 ⟨rfl, rfl⟩)
    go_ret2
    exact ⟨rfl, later1 _ _⟩
set_option maxRecDepth 100000 in
theorem write_any (x : Cpu) (n v : Int) (w : World) (hv : Tm.isE v) : Calls Try.prog 24 #[.agg x.cells.toArray, .int .i64 n, .int .u32 v] w fun e w' => e = .returned (.tuple #[.agg (x.put n v).cells.toArray, .int .i64 (errW n)]) ∧ Later w w' := by
  have b4 := (Blk.new w 26 x.cells.toArray x.cells rfl).alloc (.cells zC.cells.toArray 26)
  have b8 := Blk.new' (w.alloc (.cells x.cells.toArray 26)) (w.heap.size + 1) 26 zC.cells.toArray zC.cells (by simp) rfl
  have lw := (later1 w (.cells x.cells.toArray 26)).alloc (by simp) (.cells zC.cells.toArray 26)
  have hand := and7 hv
  by_cases h : 0 ≤ n ∧ n < 7
  · rcases (show n = 0 ∨ n = 1 ∨ n = 2 ∨ n = 3 ∨ n = 4 ∨ n = 5 ∨ n = 6 by omega) with rfl | rfl | rfl | rfl | rfl | rfl | rfl
    · have HC := Lib.hid fun w' => control_in 0 (by omega) w'
      clear h
      go_enter Try.func24, Try.ntmps24
      go_upto_region 1 with fail
      obtain ⟨u0, hu⟩ : ∃ u0, (w.alloc (.cells x.cells.toArray 26)).alloc (.cells zC.cells.toArray 26) = u0 := ⟨_, rfl⟩
      rw [hu] at b4 b8 lw
      have hu2 : (w.alloc (.cells x.cells.toArray 26)).alloc (.cells #[.int .u32 0, .int .u32 0, .int .u32 0, .int .u32 0, .int .u32 0, .int .u32 0, .int .u32 0, .int .u32 0, .int .u32 0, .int .u32 0, .int .u32 0, .int .u32 0, .int .u32 0, .int .u32 0, .int .u32 0, .int .u32 0, .int .u32 0, .int .u32 0, .int .u32 0, .int .u32 0, .int .u32 0, .int .u32 0, .int .u32 0, .int .u32 0, .int .u32 0, .int .u32 0, .bool false, .bool false, .bool false, .int .i64 0] 26) = u0 := hu
      rw [hu2]
      clear hu hu2
      have e1 := b4.cell (j := 17) (v := .int .u32 x.c0) rfl
      have f1 := b4.frz 17
      go_wp2_with (first | (go_at_call 35; refine (HC.out _).mono ?_; rintro e w1 ⟨rfl, rfl⟩) | ((with_reducible refine wpList_load_blk (o := ⟨some 26, .load 26 (.tmp 3), _, _, _, none⟩) rfl _ _ rfl w.heap.size 26 ({ x with c0 := v } : Cpu).cells _ ?_ ?_ Try.underlying26 rfl (cpu_sz _) ?_); rfl; exact (b4.set 17 (.int .u32 v))) | ((with_reducible refine wpList_store_abs (o := ⟨none, .store 26 (.tmp 6) (.tmp 26), _, _, _, none⟩) rfl _ _ _ rfl (w.heap.size + 1) 26 zC.cells ({ x with c0 := v } : Cpu).cells ?_ ?_ ?_ ?_ ?_ ?_ ?_); rfl; rfl; exact (b8.set_other ⟨w.heap.size, 17, none⟩ (.int .u32 v) (by first | (simp; done) | (simp; omega))); exact cpu_sz _; rfl; exact cpu_one _; intro w9 b9 o9))
      exact bodyPost_ret (cpu_ret2 Try.results24 _ _ (w.heap.size + 1) ({ x with c0 := v } : Cpu) (.int .i64 0) rfl rfl b9) rfl ⟨rfl, Below.only (lw.setCell (p := ⟨w.heap.size, 17, none⟩) (by first | (simp; done) | (simp; omega)) (.int .u32 v)) o9 (by omega)⟩
    · have HC := Lib.hid fun w' => control_in 1 (by omega) w'
      clear h
      go_enter Try.func24, Try.ntmps24
      go_upto_region 1 with fail
      obtain ⟨u0, hu⟩ : ∃ u0, (w.alloc (.cells x.cells.toArray 26)).alloc (.cells zC.cells.toArray 26) = u0 := ⟨_, rfl⟩
      rw [hu] at b4 b8 lw
      have hu2 : (w.alloc (.cells x.cells.toArray 26)).alloc (.cells #[.int .u32 0, .int .u32 0, .int .u32 0, .int .u32 0, .int .u32 0, .int .u32 0, .int .u32 0, .int .u32 0, .int .u32 0, .int .u32 0, .int .u32 0, .int .u32 0, .int .u32 0, .int .u32 0, .int .u32 0, .int .u32 0, .int .u32 0, .int .u32 0, .int .u32 0, .int .u32 0, .int .u32 0, .int .u32 0, .int .u32 0, .int .u32 0, .int .u32 0, .int .u32 0, .bool false, .bool false, .bool false, .int .i64 0] 26) = u0 := hu
      rw [hu2]
      clear hu hu2
      have e1 := b4.cell (j := 18) (v := .int .u32 x.c1) rfl
      have f1 := b4.frz 18
      go_wp2_with (first | (go_at_call 35; refine (HC.out _).mono ?_; rintro e w1 ⟨rfl, rfl⟩) | ((with_reducible refine wpList_load_blk (o := ⟨some 26, .load 26 (.tmp 3), _, _, _, none⟩) rfl _ _ rfl w.heap.size 26 ({ x with c1 := v } : Cpu).cells _ ?_ ?_ Try.underlying26 rfl (cpu_sz _) ?_); rfl; exact (b4.set 18 (.int .u32 v))) | ((with_reducible refine wpList_store_abs (o := ⟨none, .store 26 (.tmp 6) (.tmp 26), _, _, _, none⟩) rfl _ _ _ rfl (w.heap.size + 1) 26 zC.cells ({ x with c1 := v } : Cpu).cells ?_ ?_ ?_ ?_ ?_ ?_ ?_); rfl; rfl; exact (b8.set_other ⟨w.heap.size, 18, none⟩ (.int .u32 v) (by first | (simp; done) | (simp; omega))); exact cpu_sz _; rfl; exact cpu_one _; intro w9 b9 o9))
      exact bodyPost_ret (cpu_ret2 Try.results24 _ _ (w.heap.size + 1) ({ x with c1 := v } : Cpu) (.int .i64 0) rfl rfl b9) rfl ⟨rfl, Below.only (lw.setCell (p := ⟨w.heap.size, 18, none⟩) (by first | (simp; done) | (simp; omega)) (.int .u32 v)) o9 (by omega)⟩
    · have HC := Lib.hid fun w' => control_in 2 (by omega) w'
      clear h
      go_enter Try.func24, Try.ntmps24
      go_upto_region 1 with fail
      obtain ⟨u0, hu⟩ : ∃ u0, (w.alloc (.cells x.cells.toArray 26)).alloc (.cells zC.cells.toArray 26) = u0 := ⟨_, rfl⟩
      rw [hu] at b4 b8 lw
      have hu2 : (w.alloc (.cells x.cells.toArray 26)).alloc (.cells #[.int .u32 0, .int .u32 0, .int .u32 0, .int .u32 0, .int .u32 0, .int .u32 0, .int .u32 0, .int .u32 0, .int .u32 0, .int .u32 0, .int .u32 0, .int .u32 0, .int .u32 0, .int .u32 0, .int .u32 0, .int .u32 0, .int .u32 0, .int .u32 0, .int .u32 0, .int .u32 0, .int .u32 0, .int .u32 0, .int .u32 0, .int .u32 0, .int .u32 0, .int .u32 0, .bool false, .bool false, .bool false, .int .i64 0] 26) = u0 := hu
      rw [hu2]
      clear hu hu2
      have e1 := b4.cell (j := 19) (v := .int .u32 x.c2) rfl
      have f1 := b4.frz 19
      go_wp2_with (first | (go_at_call 35; refine (HC.out _).mono ?_; rintro e w1 ⟨rfl, rfl⟩) | ((with_reducible refine wpList_load_blk (o := ⟨some 26, .load 26 (.tmp 3), _, _, _, none⟩) rfl _ _ rfl w.heap.size 26 ({ x with c2 := v } : Cpu).cells _ ?_ ?_ Try.underlying26 rfl (cpu_sz _) ?_); rfl; exact (b4.set 19 (.int .u32 v))) | ((with_reducible refine wpList_store_abs (o := ⟨none, .store 26 (.tmp 6) (.tmp 26), _, _, _, none⟩) rfl _ _ _ rfl (w.heap.size + 1) 26 zC.cells ({ x with c2 := v } : Cpu).cells ?_ ?_ ?_ ?_ ?_ ?_ ?_); rfl; rfl; exact (b8.set_other ⟨w.heap.size, 19, none⟩ (.int .u32 v) (by first | (simp; done) | (simp; omega))); exact cpu_sz _; rfl; exact cpu_one _; intro w9 b9 o9))
      exact bodyPost_ret (cpu_ret2 Try.results24 _ _ (w.heap.size + 1) ({ x with c2 := v } : Cpu) (.int .i64 0) rfl rfl b9) rfl ⟨rfl, Below.only (lw.setCell (p := ⟨w.heap.size, 19, none⟩) (by first | (simp; done) | (simp; omega)) (.int .u32 v)) o9 (by omega)⟩
    · have HC := Lib.hid fun w' => control_in 3 (by omega) w'
      clear h
      go_enter Try.func24, Try.ntmps24
      go_upto_region 1 with fail
      obtain ⟨u0, hu⟩ : ∃ u0, (w.alloc (.cells x.cells.toArray 26)).alloc (.cells zC.cells.toArray 26) = u0 := ⟨_, rfl⟩
      rw [hu] at b4 b8 lw
      have hu2 : (w.alloc (.cells x.cells.toArray 26)).alloc (.cells #[.int .u32 0, .int .u32 0, .int .u32 0, .int .u32 0, .int .u32 0, .int .u32 0, .int .u32 0, .int .u32 0, .int .u32 0, .int .u32 0, .int .u32 0, .int .u32 0, .int .u32 0, .int .u32 0, .int .u32 0, .int .u32 0, .int .u32 0, .int .u32 0, .int .u32 0, .int .u32 0, .int .u32 0, .int .u32 0, .int .u32 0, .int .u32 0, .int .u32 0, .int .u32 0, .bool false, .bool false, .bool false, .int .i64 0] 26) = u0 := hu
      rw [hu2]
      clear hu hu2
      have e1 := b4.cell (j := 20) (v := .int .u32 x.c3) rfl
      have f1 := b4.frz 20
      go_wp2_with (first | (go_at_call 35; refine (HC.out _).mono ?_; rintro e w1 ⟨rfl, rfl⟩) | ((with_reducible refine wpList_load_blk (o := ⟨some 26, .load 26 (.tmp 3), _, _, _, none⟩) rfl _ _ rfl w.heap.size 26 ({ x with c3 := v } : Cpu).cells _ ?_ ?_ Try.underlying26 rfl (cpu_sz _) ?_); rfl; exact (b4.set 20 (.int .u32 v))) | ((with_reducible refine wpList_store_abs (o := ⟨none, .store 26 (.tmp 6) (.tmp 26), _, _, _, none⟩) rfl _ _ _ rfl (w.heap.size + 1) 26 zC.cells ({ x with c3 := v } : Cpu).cells ?_ ?_ ?_ ?_ ?_ ?_ ?_); rfl; rfl; exact (b8.set_other ⟨w.heap.size, 20, none⟩ (.int .u32 v) (by first | (simp; done) | (simp; omega))); exact cpu_sz _; rfl; exact cpu_one _; intro w9 b9 o9))
      exact bodyPost_ret (cpu_ret2 Try.results24 _ _ (w.heap.size + 1) ({ x with c3 := v } : Cpu) (.int .i64 0) rfl rfl b9) rfl ⟨rfl, Below.only (lw.setCell (p := ⟨w.heap.size, 20, none⟩) (by first | (simp; done) | (simp; omega)) (.int .u32 v)) o9 (by omega)⟩
    · have HC := Lib.hid fun w' => control_in 4 (by omega) w'
      clear h
      go_enter Try.func24, Try.ntmps24
      go_upto_region 1 with fail
      obtain ⟨u0, hu⟩ : ∃ u0, (w.alloc (.cells x.cells.toArray 26)).alloc (.cells zC.cells.toArray 26) = u0 := ⟨_, rfl⟩
      rw [hu] at b4 b8 lw
      have hu2 : (w.alloc (.cells x.cells.toArray 26)).alloc (.cells #[.int .u32 0, .int .u32 0, .int .u32 0, .int .u32 0, .int .u32 0, .int .u32 0, .int .u32 0, .int .u32 0, .int .u32 0, .int .u32 0, .int .u32 0, .int .u32 0, .int .u32 0, .int .u32 0, .int .u32 0, .int .u32 0, .int .u32 0, .int .u32 0, .int .u32 0, .int .u32 0, .int .u32 0, .int .u32 0, .int .u32 0, .int .u32 0, .int .u32 0, .int .u32 0, .bool false, .bool false, .bool false, .int .i64 0] 26) = u0 := hu
      rw [hu2]
      clear hu hu2
      have e1 := b4.cell (j := 21) (v := .int .u32 x.c4) rfl
      have f1 := b4.frz 21
      go_wp2_with (first | (go_at_call 35; refine (HC.out _).mono ?_; rintro e w1 ⟨rfl, rfl⟩) | ((with_reducible refine wpList_load_blk (o := ⟨some 26, .load 26 (.tmp 3), _, _, _, none⟩) rfl _ _ rfl w.heap.size 26 ({ x with c4 := v } : Cpu).cells _ ?_ ?_ Try.underlying26 rfl (cpu_sz _) ?_); rfl; exact (b4.set 21 (.int .u32 v))) | ((with_reducible refine wpList_store_abs (o := ⟨none, .store 26 (.tmp 6) (.tmp 26), _, _, _, none⟩) rfl _ _ _ rfl (w.heap.size + 1) 26 zC.cells ({ x with c4 := v } : Cpu).cells ?_ ?_ ?_ ?_ ?_ ?_ ?_); rfl; rfl; exact (b8.set_other ⟨w.heap.size, 21, none⟩ (.int .u32 v) (by first | (simp; done) | (simp; omega))); exact cpu_sz _; rfl; exact cpu_one _; intro w9 b9 o9))
      exact bodyPost_ret (cpu_ret2 Try.results24 _ _ (w.heap.size + 1) ({ x with c4 := v } : Cpu) (.int .i64 0) rfl rfl b9) rfl ⟨rfl, Below.only (lw.setCell (p := ⟨w.heap.size, 21, none⟩) (by first | (simp; done) | (simp; omega)) (.int .u32 v)) o9 (by omega)⟩
    · have HC := Lib.hid fun w' => control_in 5 (by omega) w'
      clear h
      go_enter Try.func24, Try.ntmps24
      go_upto_region 1 with fail
      obtain ⟨u0, hu⟩ : ∃ u0, (w.alloc (.cells x.cells.toArray 26)).alloc (.cells zC.cells.toArray 26) = u0 := ⟨_, rfl⟩
      rw [hu] at b4 b8 lw
      have hu2 : (w.alloc (.cells x.cells.toArray 26)).alloc (.cells #[.int .u32 0, .int .u32 0, .int .u32 0, .int .u32 0, .int .u32 0, .int .u32 0, .int .u32 0, .int .u32 0, .int .u32 0, .int .u32 0, .int .u32 0, .int .u32 0, .int .u32 0, .int .u32 0, .int .u32 0, .int .u32 0, .int .u32 0, .int .u32 0, .int .u32 0, .int .u32 0, .int .u32 0, .int .u32 0, .int .u32 0, .int .u32 0, .int .u32 0, .int .u32 0, .bool false, .bool false, .bool false, .int .i64 0] 26) = u0 := hu
      rw [hu2]
      clear hu hu2
      have e1 := b4.cell (j := 22) (v := .int .u32 x.c5) rfl
      have f1 := b4.frz 22
      go_wp2_with (first | (go_at_call 35; refine (HC.out _).mono ?_; rintro e w1 ⟨rfl, rfl⟩) | ((with_reducible refine wpList_load_blk (o := ⟨some 26, .load 26 (.tmp 3), _, _, _, none⟩) rfl _ _ rfl w.heap.size 26 ({ x with c5 := (v % 8) } : Cpu).cells _ ?_ ?_ Try.underlying26 rfl (cpu_sz _) ?_); rfl; exact (b4.set 22 (.int .u32 (v % 8)))) | ((with_reducible refine wpList_store_abs (o := ⟨none, .store 26 (.tmp 6) (.tmp 26), _, _, _, none⟩) rfl _ _ _ rfl (w.heap.size + 1) 26 zC.cells ({ x with c5 := (v % 8) } : Cpu).cells ?_ ?_ ?_ ?_ ?_ ?_ ?_); rfl; rfl; exact (b8.set_other ⟨w.heap.size, 22, none⟩ (.int .u32 (v % 8)) (by first | (simp; done) | (simp; omega))); exact cpu_sz _; rfl; exact cpu_one _; intro w9 b9 o9))
      exact bodyPost_ret (cpu_ret2 Try.results24 _ _ (w.heap.size + 1) ({ x with c5 := (v % 8) } : Cpu) (.int .i64 0) rfl rfl b9) rfl ⟨rfl, Below.only (lw.setCell (p := ⟨w.heap.size, 22, none⟩) (by first | (simp; done) | (simp; omega)) (.int .u32 (v % 8))) o9 (by omega)⟩
    · have HC := Lib.hid fun w' => control_in 6 (by omega) w'
      clear h
      go_enter Try.func24, Try.ntmps24
      go_upto_region 1 with fail
      obtain ⟨u0, hu⟩ : ∃ u0, (w.alloc (.cells x.cells.toArray 26)).alloc (.cells zC.cells.toArray 26) = u0 := ⟨_, rfl⟩
      rw [hu] at b4 b8 lw
      have hu2 : (w.alloc (.cells x.cells.toArray 26)).alloc (.cells #[.int .u32 0, .int .u32 0, .int .u32 0, .int .u32 0, .int .u32 0, .int .u32 0, .int .u32 0, .int .u32 0, .int .u32 0, .int .u32 0, .int .u32 0, .int .u32 0, .int .u32 0, .int .u32 0, .int .u32 0, .int .u32 0, .int .u32 0, .int .u32 0, .int .u32 0, .int .u32 0, .int .u32 0, .int .u32 0, .int .u32 0, .int .u32 0, .int .u32 0, .int .u32 0, .bool false, .bool false, .bool false, .int .i64 0] 26) = u0 := hu
      rw [hu2]
      clear hu hu2
      have e1 := b4.cell (j := 23) (v := .int .u32 x.c6) rfl
      have f1 := b4.frz 23
      go_wp2_with (first | (go_at_call 35; refine (HC.out _).mono ?_; rintro e w1 ⟨rfl, rfl⟩) | ((with_reducible refine wpList_load_blk (o := ⟨some 26, .load 26 (.tmp 3), _, _, _, none⟩) rfl _ _ rfl w.heap.size 26 ({ x with c6 := v } : Cpu).cells _ ?_ ?_ Try.underlying26 rfl (cpu_sz _) ?_); rfl; exact (b4.set 23 (.int .u32 v))) | ((with_reducible refine wpList_store_abs (o := ⟨none, .store 26 (.tmp 6) (.tmp 26), _, _, _, none⟩) rfl _ _ _ rfl (w.heap.size + 1) 26 zC.cells ({ x with c6 := v } : Cpu).cells ?_ ?_ ?_ ?_ ?_ ?_ ?_); rfl; rfl; exact (b8.set_other ⟨w.heap.size, 23, none⟩ (.int .u32 v) (by first | (simp; done) | (simp; omega))); exact cpu_sz _; rfl; exact cpu_one _; intro w9 b9 o9))
      exact bodyPost_ret (cpu_ret2 Try.results24 _ _ (w.heap.size + 1) ({ x with c6 := v } : Cpu) (.int .i64 0) rfl rfl b9) rfl ⟨rfl, Below.only (lw.setCell (p := ⟨w.heap.size, 23, none⟩) (by first | (simp; done) | (simp; omega)) (.int .u32 v)) o9 (by omega)⟩
  · rw [(put_out (x := x) (v := v) h).1, (put_out (x := x) (v := v) h).2]
    by_cases h2 : 0 ≤ n ∧ n < 9
    · have HC := Lib.hid fun w' => control_in n h2 w'
      rcases (show n = 7 ∨ n = 8 by omega) with rfl | rfl
      · clear h h2
        go_enter Try.func24, Try.ntmps24
        go_upto_region 1 with fail
        obtain ⟨u0, hu⟩ : ∃ u0, (w.alloc (.cells x.cells.toArray 26)).alloc (.cells zC.cells.toArray 26) = u0 := ⟨_, rfl⟩
        rw [hu] at b4 b8 lw
        have hu2 : (w.alloc (.cells x.cells.toArray 26)).alloc (.cells #[.int .u32 0, .int .u32 0, .int .u32 0, .int .u32 0, .int .u32 0, .int .u32 0, .int .u32 0, .int .u32 0, .int .u32 0, .int .u32 0, .int .u32 0, .int .u32 0, .int .u32 0, .int .u32 0, .int .u32 0, .int .u32 0, .int .u32 0, .int .u32 0, .int .u32 0, .int .u32 0, .int .u32 0, .int .u32 0, .int .u32 0, .int .u32 0, .int .u32 0, .int .u32 0, .bool false, .bool false, .bool false, .int .i64 0] 26) = u0 := hu
        rw [hu2]
        clear hu hu2
        go_wp2_with (first | (go_at_call 35; refine (HC.out _).mono ?_; rintro e w1 ⟨rfl, rfl⟩) | ((with_reducible refine wpList_load_blk (o := ⟨some 16, .load 26 (.tmp 3), _, _, _, none⟩) rfl _ _ rfl w.heap.size 26 x.cells _ ?_ ?_ Try.underlying26 rfl (cpu_sz _) ?_); rfl; exact b4) | ((with_reducible refine wpList_store_abs (o := ⟨none, .store 26 (.tmp 6) (.tmp 16), _, _, _, none⟩) rfl _ _ _ rfl (w.heap.size + 1) 26 zC.cells x.cells ?_ ?_ ?_ ?_ ?_ ?_ ?_); rfl; rfl; exact b8; exact cpu_sz _; rfl; exact cpu_one _; intro w9 b9 o9))
        exact bodyPost_ret (cpu_ret2 Try.results24 _ _ (w.heap.size + 1) x (.int .i64 1) rfl rfl b9) rfl ⟨rfl, Below.only lw o9 (by omega)⟩
      · clear h h2
        go_enter Try.func24, Try.ntmps24
        go_upto_region 1 with fail
        obtain ⟨u0, hu⟩ : ∃ u0, (w.alloc (.cells x.cells.toArray 26)).alloc (.cells zC.cells.toArray 26) = u0 := ⟨_, rfl⟩
        rw [hu] at b4 b8 lw
        have hu2 : (w.alloc (.cells x.cells.toArray 26)).alloc (.cells #[.int .u32 0, .int .u32 0, .int .u32 0, .int .u32 0, .int .u32 0, .int .u32 0, .int .u32 0, .int .u32 0, .int .u32 0, .int .u32 0, .int .u32 0, .int .u32 0, .int .u32 0, .int .u32 0, .int .u32 0, .int .u32 0, .int .u32 0, .int .u32 0, .int .u32 0, .int .u32 0, .int .u32 0, .int .u32 0, .int .u32 0, .int .u32 0, .int .u32 0, .int .u32 0, .bool false, .bool false, .bool false, .int .i64 0] 26) = u0 := hu
        rw [hu2]
        clear hu hu2
        go_wp2_with (first | (go_at_call 35; refine (HC.out _).mono ?_; rintro e w1 ⟨rfl, rfl⟩) | ((with_reducible refine wpList_load_blk (o := ⟨some 16, .load 26 (.tmp 3), _, _, _, none⟩) rfl _ _ rfl w.heap.size 26 x.cells _ ?_ ?_ Try.underlying26 rfl (cpu_sz _) ?_); rfl; exact b4) | ((with_reducible refine wpList_store_abs (o := ⟨none, .store 26 (.tmp 6) (.tmp 16), _, _, _, none⟩) rfl _ _ _ rfl (w.heap.size + 1) 26 zC.cells x.cells ?_ ?_ ?_ ?_ ?_ ?_ ?_); rfl; rfl; exact b8; exact cpu_sz _; rfl; exact cpu_one _; intro w9 b9 o9))
        exact bodyPost_ret (cpu_ret2 Try.results24 _ _ (w.heap.size + 1) x (.int .i64 1) rfl rfl b9) rfl ⟨rfl, Below.only lw o9 (by omega)⟩
    · have HC := Lib.hid fun w' => control_out n h2 w'
      clear h h2
      go_enter Try.func24, Try.ntmps24
      go_upto_region 1 with fail
      obtain ⟨u0, hu⟩ : ∃ u0, (w.alloc (.cells x.cells.toArray 26)).alloc (.cells zC.cells.toArray 26) = u0 := ⟨_, rfl⟩
      rw [hu] at b4 b8 lw
      have hu2 : (w.alloc (.cells x.cells.toArray 26)).alloc (.cells #[.int .u32 0, .int .u32 0, .int .u32 0, .int .u32 0, .int .u32 0, .int .u32 0, .int .u32 0, .int .u32 0, .int .u32 0, .int .u32 0, .int .u32 0, .int .u32 0, .int .u32 0, .int .u32 0, .int .u32 0, .int .u32 0, .int .u32 0, .int .u32 0, .int .u32 0, .int .u32 0, .int .u32 0, .int .u32 0, .int .u32 0, .int .u32 0, .int .u32 0, .int .u32 0, .bool false, .bool false, .bool false, .int .i64 0] 26) = u0 := hu
      rw [hu2]
      clear hu hu2
      go_wp2_with (first | (go_at_call 35; refine (HC.out _).mono ?_; rintro e w1 ⟨rfl, rfl⟩) | ((with_reducible refine wpList_load_blk (o := ⟨some 16, .load 26 (.tmp 3), _, _, _, none⟩) rfl _ _ rfl w.heap.size 26 x.cells _ ?_ ?_ Try.underlying26 rfl (cpu_sz _) ?_); rfl; exact b4) | ((with_reducible refine wpList_store_abs (o := ⟨none, .store 26 (.tmp 6) (.tmp 16), _, _, _, none⟩) rfl _ _ _ rfl (w.heap.size + 1) 26 zC.cells x.cells ?_ ?_ ?_ ?_ ?_ ?_ ?_); rfl; rfl; exact b8; exact cpu_sz _; rfl; exact cpu_one _; intro w9 b9 o9))
      exact bodyPost_ret (cpu_ret2 Try.results24 _ _ (w.heap.size + 1) x (.int .i64 1) rfl rfl b9) rfl ⟨rfl, Below.only lw o9 (by omega)⟩
end Go.Proofs.Ytkknobonpejgbaa
