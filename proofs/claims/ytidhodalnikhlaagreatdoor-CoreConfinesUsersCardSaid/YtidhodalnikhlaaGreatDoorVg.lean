/-
  PROCESSORS: the reference's Enter and Return; Ready, and the reference's.
-/
import Derived.Test.YtidhodalnikhlaaGreatDoorVf
import Derived.Laws.StructEq
import Derived.ChangeKeysEq
namespace Go.Proofs.YtidhodalnikhlaaGreatDoor
open Go.RowKit Go.ChangeShapes Go.WideShapes Go.ChangeAt

end Go.Proofs.YtidhodalnikhlaaGreatDoor

/-
  PROCESSORS: Ready, Due, and the reference's.
-/
namespace Go.Proofs.YtidhodalnikhlaaGreatDoor
open Go.RowKit Go.ChangeShapes Go.WideShapes Go.ChangeAt

set_option maxRecDepth 100000 in
theorem and31 {p : Int} (h : Tm.isE p) : bits .and .u32 p 31 = p % 32 := by
  obtain ⟨q, rfl⟩ := Int.eq_ofNat_of_zero_le h.1
  have h2 := h.2
  rw [show (31 : Int) = ((31 : Nat) : Int) from rfl, and32 q 31 (by omega) (by omega)]
  rw [show (31 : Nat) = 2 ^ 5 - 1 from rfl, Nat.and_two_pow_sub_one_eq_mod]
  omega
set_option maxRecDepth 100000 in
theorem and7 {p : Int} (h : Tm.isE p) : bits .and .u32 p 7 = p % 8 := by
  obtain ⟨q, rfl⟩ := Int.eq_ofNat_of_zero_le h.1
  have h2 := h.2
  rw [show (7 : Int) = ((7 : Nat) : Int) from rfl, and32 q 7 (by omega) (by omega)]
  rw [show (7 : Nat) = 2 ^ 3 - 1 from rfl, Nat.and_two_pow_sub_one_eq_mod]
  omega
set_option maxRecDepth 100000 in
/-- Whether a processor steps. -/
def rdy (hl wt : Bool) (p : Int) : Bool := !hl && (!wt || !decide (p % 32 = 0))
set_option maxRecDepth 100000 in
theorem ready_any (x : Cpu) (p : Int) (w : World) (hp : Tm.isE p) : Calls Tryz.prog 20 #[.agg x.cells.toArray, .int .u32 p] w fun e w' => e = .returned (.bool (rdy x.hl x.wt p)) ∧ Later w w' := by
  have hb := Blk.new w 26 x.cells.toArray x.cells rfl
  have khl := hb.cell (j := 28) (v := .bool x.hl) rfl
  have kwt := hb.cell (j := 27) (v := .bool x.wt) rfl
  generalize x.hl = hl at khl ⊢
  generalize x.wt = wt at kwt ⊢
  clear hb
  have hand := and31 hp
  have hq0 : 0 ≤ p % 32 := by omega
  unfold rdy
  generalize p % 32 = q at hand hq0 ⊢
  cases hl
  · cases wt
    · go_enter Tryz.func20, Tryz.ntmps20
      go_wp2
      go_ret
      refine ⟨ret_bool ?_, later1 _ _⟩
      first | rfl | simpa using h
    · by_cases h : q = 0
      · have d1 : (q == 0) = true := by simpa using h
        have d2 : decide (0 < q) = false := decide_eq_false (by omega)
        rw [show decide (q = 0) = true from decide_eq_true h]
        go_enter Tryz.func20, Tryz.ntmps20
        go_wp2
        go_ret
        refine ⟨ret_bool ?_, later1 _ _⟩
        first | rfl | simpa using h
      · have d1 : (q == 0) = false := by simpa using h
        have d2 : decide (0 < q) = true := decide_eq_true (by omega)
        rw [show decide (q = 0) = false from decide_eq_false h]
        go_enter Tryz.func20, Tryz.ntmps20
        go_wp2
        go_ret
        refine ⟨ret_bool ?_, later1 _ _⟩
        first | rfl | simpa using h
  · go_enter Tryz.func20, Tryz.ntmps20
    go_wp2
    go_ret
    refine ⟨ret_bool ?_, later1 _ _⟩
    first | rfl | simpa using h
set_option maxRecDepth 100000 in
/-- The bit k of a word. -/
def bitK (p : Int) (k : Nat) : Bool := decide (p / 2 ^ k % 2 = 1)
set_option maxRecDepth 100000 in
/-- The least of five lines that is pending; 5 if none is. -/
def least (p : Int) : Nat := if bitK p 0 then 0 else if bitK p 1 then 1 else if bitK p 2 then 2 else if bitK p 3 then 3 else if bitK p 4 then 4 else 5
set_option maxRecDepth 100000 in
theorem least_is (p : Int) : least p ≤ 5 ∧ (∀ j, j < least p → bitK p j = false) ∧ (least p < 5 → bitK p (least p) = true) := by
  unfold least
  cases h0 : bitK p 0
  · cases h1 : bitK p 1
    · cases h2 : bitK p 2
      · cases h3 : bitK p 3
        · cases h4 : bitK p 4
          · simp only [Bool.false_eq_true, if_false]
            refine ⟨by omega, fun j hj => ?_, fun h => by omega⟩
            rcases (show j = 0 ∨ j = 1 ∨ j = 2 ∨ j = 3 ∨ j = 4 by omega) with rfl | rfl | rfl | rfl | rfl <;> assumption
          · simp only [Bool.false_eq_true, if_false, if_true]
            refine ⟨by omega, fun j hj => ?_, fun _ => h4⟩
            rcases (show j = 0 ∨ j = 1 ∨ j = 2 ∨ j = 3 by omega) with rfl | rfl | rfl | rfl <;> assumption
        · simp only [Bool.false_eq_true, if_false, if_true]
          refine ⟨by omega, fun j hj => ?_, fun _ => h3⟩
          rcases (show j = 0 ∨ j = 1 ∨ j = 2 by omega) with rfl | rfl | rfl <;> assumption
      · simp only [Bool.false_eq_true, if_false, if_true]
        refine ⟨by omega, fun j hj => ?_, fun _ => h2⟩
        rcases (show j = 0 ∨ j = 1 by omega) with rfl | rfl <;> assumption
    · simp only [Bool.false_eq_true, if_false, if_true]
      refine ⟨by omega, fun j hj => ?_, fun _ => h1⟩
      obtain rfl : j = 0 := by omega
      assumption
  · simp only [if_true]
    exact ⟨by omega, fun j hj => by omega, fun _ => h0⟩
set_option maxRecDepth 100000 in
theorem bit_k {p : Int} (k : Nat) (h : Tm.isE p) : (bits .and .u32 (p / 2 ^ k) 1 == 1) = bitK p k := bit0 (shr_e k h)
set_option maxRecDepth 100000 in
/-- What is due. -/
def dueN (on : Bool) (p : Int) : Int := if on && decide (least p < 5) then least p else 0
set_option maxRecDepth 100000 in
def dueB (on : Bool) (p : Int) : Bool := on && decide (least p < 5)
set_option maxRecDepth 100000 in
theorem due_any (x : Cpu) (p : Int) (w : World) (hx : Tm.isE x.c5) (hp : Tm.isE p) : Calls Tryz.prog 75 #[.agg x.cells.toArray, .int .u32 p] w fun e w' => e = .returned (.tuple #[.int .i64 (dueN (Tm.has x.c5 1) p), .bool (dueB (Tm.has x.c5 1) p)]) ∧ Later w w' := by
  have HH := Lib.hid fun w' => has_bit x 0 1 rfl (by omega) hx w'
  have b4 := Blk.new w 26 x.cells.toArray x.cells rfl
  have lw := later1 w (.cells x.cells.toArray 26)
  have hl := least_is p
  obtain ⟨N, hN⟩ : ∃ N, N = dueN (Tm.has x.c5 1) p := ⟨_, rfl⟩
  obtain ⟨D, hD⟩ : ∃ N, N = dueB (Tm.has x.c5 1) p := ⟨_, rfl⟩
  rw [← hN, ← hD]
  unfold dueN at hN
  unfold dueB at hD
  obtain ⟨L, hL⟩ : ∃ L, L = least p := ⟨_, rfl⟩
  rw [← hL] at hl hN hD
  obtain ⟨h5, hlt, hat⟩ := hl
  have hbk := fun k => bit_k (p := p) k hp
  obtain ⟨on, hon⟩ : ∃ s, s = Tm.has x.c5 1 := ⟨_, rfl⟩
  rw [← hon] at HH hN hD
  have HN := Lib.hid hN
  have HD := Lib.hid hD
  clear hon hL hx hp hN hD
  cases on
  · clear hbk hlt hat h5
    go_enter Tryz.func75, Tryz.ntmps75
    go_wp2_with (first
      | ((with_reducible refine wpList_load_blk (o := ⟨some 7, .load 26 (.tmp 2), _, _, _, none⟩) rfl _ _ rfl w.heap.size 26 x.cells _ ?_ ?_ Tryz.underlying26 rfl (cpu_sz _) ?_); rfl; exact b4)
      | (go_at_call 90; refine (HH.out _).mono ?_; rintro e w1 ⟨rfl, l1⟩))
    go_ret2
    exact ⟨by rw [HN.out, HD.out]; rfl, Later.trans_ lw l1⟩
  · 
    go_enter Tryz.func75, Tryz.ntmps75
    go_wp2_with (first
      | ((with_reducible refine wpList_load_blk (o := ⟨some 7, .load 26 (.tmp 2), _, _, _, none⟩) rfl _ _ rfl w.heap.size 26 x.cells _ ?_ ?_ Tryz.underlying26 rfl (cpu_sz _) ?_); rfl; exact b4)
      | (go_at_call 90; refine (HH.out _).mono ?_; rintro e w1 ⟨rfl, l1⟩))
    replace lw := Later.trans_ lw l1
    clear b4 HH
    go_loopw [10] (fun i wr => ∃ k : Nat, k ≤ L ∧ i = .int .i64 k ∧ w1 = wr) (fun i _ => 5 - (intOf i).toNat)
    case atStart => exact ⟨0, by omega, rfl, rfl⟩
    case round =>
      rename_i wr
      obtain ⟨k, hk, rfl, rfl⟩ := hrel
      have hb := hbk k
      clear hbk
      by_cases e : k = L
      · subst e
        by_cases h : k < 5
        · have hN := HN.out
          have hD := HD.out
          rw [decide_eq_true h, Bool.true_and, if_pos rfl] at hN
          rw [decide_eq_true h, Bool.true_and] at hD
          subst hN hD
          rw [hat h] at hb
          clear hat hlt
          go_wp2
          go_ret2
          exact ⟨rfl, lw⟩
        · have hN := HN.out
          have hD := HD.out
          rw [decide_eq_false h, Bool.true_and, if_neg Bool.false_ne_true] at hN
          rw [decide_eq_false h, Bool.true_and] at hD
          subst hN hD
          obtain rfl : k = 5 := by omega
          clear hat hlt hb
          go_wp2
          go_ret2
          exact ⟨rfl, lw⟩
      · rw [hlt k (by omega)] at hb
        have h1 : (k : Int) < 5 := by omega
        clear hat hlt
        go_wp2
        go_roundw
        case rel => exact ⟨k + 1, by omega, by go_num, trivial⟩
        case measure => simp [intOf]; omega
end Go.Proofs.YtidhodalnikhlaaGreatDoor

/-
  PROCESSORS: Read, Write, and the reference's.
-/
namespace Go.Proofs.YtidhodalnikhlaaGreatDoor
open Go.RowKit Go.ChangeShapes Go.WideShapes Go.ChangeAt

set_option maxRecDepth 100000 in
/-- A control register. -/
def Cpu.ctl (x : Cpu) (n p : Int) : Int := if n = 0 then x.c0 else if n = 1 then x.c1 else if n = 2 then x.c2 else if n = 3 then x.c3 else if n = 4 then x.c4 else if n = 5 then x.c5 else if n = 6 then x.c6 else if n = 7 then p % 32 else if n = 8 then x.c8 else 0
set_option maxRecDepth 100000 in
def errR (n : Int) : Int := if 0 ≤ n ∧ n < 9 then 0 else 1
set_option maxRecDepth 100000 in
/-- A processor with another control register. -/
def Cpu.put (x : Cpu) (n v : Int) : Cpu := if n = 0 then { x with c0 := v } else if n = 1 then { x with c1 := v } else if n = 2 then { x with c2 := v } else if n = 3 then { x with c3 := v } else if n = 4 then { x with c4 := v } else if n = 5 then { x with c5 := v % 8 } else if n = 6 then { x with c6 := v } else x
set_option maxRecDepth 100000 in
def errW (n : Int) : Int := if 0 ≤ n ∧ n < 7 then 0 else 1
set_option maxRecDepth 100000 in
theorem ctl_out {x : Cpu} {n p : Int} (h : ¬ (0 ≤ n ∧ n < 9)) : x.ctl n p = 0 ∧ errR n = 1 := by
  unfold Cpu.ctl errR
  rw [if_neg (by omega), if_neg (by omega), if_neg (by omega), if_neg (by omega), if_neg (by omega), if_neg (by omega), if_neg (by omega), if_neg (by omega), if_neg (by omega), if_neg h]
  exact ⟨rfl, rfl⟩
set_option maxRecDepth 100000 in
theorem put_out {x : Cpu} {n v : Int} (h : ¬ (0 ≤ n ∧ n < 7)) : x.put n v = x ∧ errW n = 1 := by
  unfold Cpu.put errW
  rw [if_neg (by omega), if_neg (by omega), if_neg (by omega), if_neg (by omega), if_neg (by omega), if_neg (by omega), if_neg (by omega), if_neg h]
  exact ⟨rfl, rfl⟩
set_option maxRecDepth 100000 in
theorem cpu_ret2 {fn : Func} {p q : Tmp} (h : fn.results = #[.cell p 26, .tmp q]) (tmps : Array Value) (w : World) (B : Nat) (x : Cpu) (v : Value) (hp : tmps.getD p undef = .pointer (some ⟨B, 0, none⟩)) (hq : tmps.getD q undef = v) (hb : Blk w B 26 x.cells) :
    (results fn tmps).run Tryz.prog w = .ok (.tuple #[.agg x.cells.toArray, v]) w :=
  results_cell_tmp h tmps w B 26 x.cells v _ hp hq hb Tryz.underlying26 rfl (cpu_sz _)
set_option maxRecDepth 100000 in
theorem control_in (n : Int) (h : 0 ≤ n ∧ n < 9) (w : World) : Calls Tryz.prog 183 #[.int .i64 n] w fun e w' => e = .returned (.bool true) ∧ w = w' := by
  rw [← decide_eq_true h]
  exact isControl_any n w
set_option maxRecDepth 100000 in
theorem control_out (n : Int) (h : ¬ (0 ≤ n ∧ n < 9)) (w : World) : Calls Tryz.prog 183 #[.int .i64 n] w fun e w' => e = .returned (.bool false) ∧ w = w' := by
  rw [← decide_eq_false h]
  exact isControl_any n w
set_option maxRecDepth 100000 in
theorem read_any_T (x : Cpu) (n p : Int) (w : World) (hp : Tm.isE p) : Calls Tryz.prog 167 #[.agg x.cells.toArray, .int .i64 n, .int .u32 p] w fun e w' => e = .returned (.tuple #[.int .u32 (x.ctl n p), .int .i64 (errR n)]) ∧ Later w w' := by
  have hb := Blk.new w 26 x.cells.toArray x.cells rfl
  have hand := and31 hp
  by_cases h : 0 ≤ n ∧ n < 9
  · rcases (show n = 0 ∨ n = 1 ∨ n = 2 ∨ n = 3 ∨ n = 4 ∨ n = 5 ∨ n = 6 ∨ n = 7 ∨ n = 8 by omega) with rfl | rfl | rfl | rfl | rfl | rfl | rfl | rfl | rfl
    · have HC := Lib.hid fun w' => control_in 0 h w'
      have k := hb.cell (j := 17) (v := .int .u32 x.c0) rfl
      clear h hb
      go_enter Tryz.func167, Tryz.ntmps167
      go_wp2_with (go_at_call 183; refine (HC.out _).mono ?_; rintro e w1 ⟨rfl, rfl⟩)
      go_ret2
      exact ⟨rfl, later1 _ _⟩
    · have HC := Lib.hid fun w' => control_in 1 h w'
      have k := hb.cell (j := 18) (v := .int .u32 x.c1) rfl
      clear h hb
      go_enter Tryz.func167, Tryz.ntmps167
      go_wp2_with (go_at_call 183; refine (HC.out _).mono ?_; rintro e w1 ⟨rfl, rfl⟩)
      go_ret2
      exact ⟨rfl, later1 _ _⟩
    · have HC := Lib.hid fun w' => control_in 2 h w'
      have k := hb.cell (j := 19) (v := .int .u32 x.c2) rfl
      clear h hb
      go_enter Tryz.func167, Tryz.ntmps167
      go_wp2_with (go_at_call 183; refine (HC.out _).mono ?_; rintro e w1 ⟨rfl, rfl⟩)
      go_ret2
      exact ⟨rfl, later1 _ _⟩
    · have HC := Lib.hid fun w' => control_in 3 h w'
      have k := hb.cell (j := 20) (v := .int .u32 x.c3) rfl
      clear h hb
      go_enter Tryz.func167, Tryz.ntmps167
      go_wp2_with (go_at_call 183; refine (HC.out _).mono ?_; rintro e w1 ⟨rfl, rfl⟩)
      go_ret2
      exact ⟨rfl, later1 _ _⟩
    · have HC := Lib.hid fun w' => control_in 4 h w'
      have k := hb.cell (j := 21) (v := .int .u32 x.c4) rfl
      clear h hb
      go_enter Tryz.func167, Tryz.ntmps167
      go_wp2_with (go_at_call 183; refine (HC.out _).mono ?_; rintro e w1 ⟨rfl, rfl⟩)
      go_ret2
      exact ⟨rfl, later1 _ _⟩
    · have HC := Lib.hid fun w' => control_in 5 h w'
      have k := hb.cell (j := 22) (v := .int .u32 x.c5) rfl
      clear h hb
      go_enter Tryz.func167, Tryz.ntmps167
      go_wp2_with (go_at_call 183; refine (HC.out _).mono ?_; rintro e w1 ⟨rfl, rfl⟩)
      go_ret2
      exact ⟨rfl, later1 _ _⟩
    · have HC := Lib.hid fun w' => control_in 6 h w'
      have k := hb.cell (j := 23) (v := .int .u32 x.c6) rfl
      clear h hb
      go_enter Tryz.func167, Tryz.ntmps167
      go_wp2_with (go_at_call 183; refine (HC.out _).mono ?_; rintro e w1 ⟨rfl, rfl⟩)
      go_ret2
      exact ⟨rfl, later1 _ _⟩
    · have HC := Lib.hid fun w' => control_in 7 h w'
      
      clear h hb
      go_enter Tryz.func167, Tryz.ntmps167
      go_wp2_with (go_at_call 183; refine (HC.out _).mono ?_; rintro e w1 ⟨rfl, rfl⟩)
      go_ret2
      exact ⟨rfl, later1 _ _⟩
    · have HC := Lib.hid fun w' => control_in 8 h w'
      have k := hb.cell (j := 25) (v := .int .u32 x.c8) rfl
      clear h hb
      go_enter Tryz.func167, Tryz.ntmps167
      go_wp2_with (go_at_call 183; refine (HC.out _).mono ?_; rintro e w1 ⟨rfl, rfl⟩)
      go_ret2
      exact ⟨rfl, later1 _ _⟩
  · rw [(ctl_out (x := x) (p := p) h).1, (ctl_out (x := x) (p := p) h).2]
    have HC := Lib.hid fun w' => control_out n h w'
    clear h hb
    go_enter Tryz.func167, Tryz.ntmps167
    go_wp2_with (go_at_call 183; refine (HC.out _).mono ?_; rintro e w1 ⟨rfl, rfl⟩)
    go_ret2
    exact ⟨rfl, later1 _ _⟩
set_option maxRecDepth 100000 in
theorem write_any (x : Cpu) (n v : Int) (w : World) (hv : Tm.isE v) : Calls Tryz.prog 168 #[.agg x.cells.toArray, .int .i64 n, .int .u32 v] w fun e w' => e = .returned (.tuple #[.agg (x.put n v).cells.toArray, .int .i64 (errW n)]) ∧ Later w w' := by
  have b4 := (Blk.new w 26 x.cells.toArray x.cells rfl).alloc (.cells zC.cells.toArray 26)
  have b8 := Blk.new' (w.alloc (.cells x.cells.toArray 26)) (w.heap.size + 1) 26 zC.cells.toArray zC.cells (by simp) rfl
  have lw := (later1 w (.cells x.cells.toArray 26)).alloc (by simp) (.cells zC.cells.toArray 26)
  have hand := and7 hv
  by_cases h : 0 ≤ n ∧ n < 7
  · rcases (show n = 0 ∨ n = 1 ∨ n = 2 ∨ n = 3 ∨ n = 4 ∨ n = 5 ∨ n = 6 by omega) with rfl | rfl | rfl | rfl | rfl | rfl | rfl
    · have HC := Lib.hid fun w' => control_in 0 (by omega) w'
      clear h
      go_enter Tryz.func168, Tryz.ntmps168
      go_upto_region 1 with fail
      obtain ⟨u0, hu⟩ : ∃ u0, (w.alloc (.cells x.cells.toArray 26)).alloc (.cells zC.cells.toArray 26) = u0 := ⟨_, rfl⟩
      rw [hu] at b4 b8 lw
      have hu2 : (w.alloc (.cells x.cells.toArray 26)).alloc (.cells #[.int .u32 0, .int .u32 0, .int .u32 0, .int .u32 0, .int .u32 0, .int .u32 0, .int .u32 0, .int .u32 0, .int .u32 0, .int .u32 0, .int .u32 0, .int .u32 0, .int .u32 0, .int .u32 0, .int .u32 0, .int .u32 0, .int .u32 0, .int .u32 0, .int .u32 0, .int .u32 0, .int .u32 0, .int .u32 0, .int .u32 0, .int .u32 0, .int .u32 0, .int .u32 0, .bool false, .bool false, .bool false, .int .i64 0] 26) = u0 := hu
      rw [hu2]
      clear hu hu2
      have e1 := b4.cell (j := 17) (v := .int .u32 x.c0) rfl
      have f1 := b4.frz 17
      go_wp2_with (first | (go_at_call 183; refine (HC.out _).mono ?_; rintro e w1 ⟨rfl, rfl⟩) | ((with_reducible refine wpList_load_blk (o := ⟨some 26, .load 26 (.tmp 3), _, _, _, none⟩) rfl _ _ rfl w.heap.size 26 ({ x with c0 := v } : Cpu).cells _ ?_ ?_ Tryz.underlying26 rfl (cpu_sz _) ?_); rfl; exact (b4.set 17 (.int .u32 v))) | ((with_reducible refine wpList_store_abs (o := ⟨none, .store 26 (.tmp 6) (.tmp 26), _, _, _, none⟩) rfl _ _ _ rfl (w.heap.size + 1) 26 zC.cells ({ x with c0 := v } : Cpu).cells ?_ ?_ ?_ ?_ ?_ ?_ ?_); rfl; rfl; exact (b8.set_other ⟨w.heap.size, 17, none⟩ (.int .u32 v) (by first | (simp; done) | (simp; omega))); exact cpu_sz _; rfl; exact cpu_one _; intro w9 b9 o9))
      exact bodyPost_ret (cpu_ret2 Tryz.results168 _ _ (w.heap.size + 1) ({ x with c0 := v } : Cpu) (.int .i64 0) rfl rfl b9) rfl ⟨rfl, Below.only (lw.setCell (p := ⟨w.heap.size, 17, none⟩) (by first | (simp; done) | (simp; omega)) (.int .u32 v)) o9 (by omega)⟩
    · have HC := Lib.hid fun w' => control_in 1 (by omega) w'
      clear h
      go_enter Tryz.func168, Tryz.ntmps168
      go_upto_region 1 with fail
      obtain ⟨u0, hu⟩ : ∃ u0, (w.alloc (.cells x.cells.toArray 26)).alloc (.cells zC.cells.toArray 26) = u0 := ⟨_, rfl⟩
      rw [hu] at b4 b8 lw
      have hu2 : (w.alloc (.cells x.cells.toArray 26)).alloc (.cells #[.int .u32 0, .int .u32 0, .int .u32 0, .int .u32 0, .int .u32 0, .int .u32 0, .int .u32 0, .int .u32 0, .int .u32 0, .int .u32 0, .int .u32 0, .int .u32 0, .int .u32 0, .int .u32 0, .int .u32 0, .int .u32 0, .int .u32 0, .int .u32 0, .int .u32 0, .int .u32 0, .int .u32 0, .int .u32 0, .int .u32 0, .int .u32 0, .int .u32 0, .int .u32 0, .bool false, .bool false, .bool false, .int .i64 0] 26) = u0 := hu
      rw [hu2]
      clear hu hu2
      have e1 := b4.cell (j := 18) (v := .int .u32 x.c1) rfl
      have f1 := b4.frz 18
      go_wp2_with (first | (go_at_call 183; refine (HC.out _).mono ?_; rintro e w1 ⟨rfl, rfl⟩) | ((with_reducible refine wpList_load_blk (o := ⟨some 26, .load 26 (.tmp 3), _, _, _, none⟩) rfl _ _ rfl w.heap.size 26 ({ x with c1 := v } : Cpu).cells _ ?_ ?_ Tryz.underlying26 rfl (cpu_sz _) ?_); rfl; exact (b4.set 18 (.int .u32 v))) | ((with_reducible refine wpList_store_abs (o := ⟨none, .store 26 (.tmp 6) (.tmp 26), _, _, _, none⟩) rfl _ _ _ rfl (w.heap.size + 1) 26 zC.cells ({ x with c1 := v } : Cpu).cells ?_ ?_ ?_ ?_ ?_ ?_ ?_); rfl; rfl; exact (b8.set_other ⟨w.heap.size, 18, none⟩ (.int .u32 v) (by first | (simp; done) | (simp; omega))); exact cpu_sz _; rfl; exact cpu_one _; intro w9 b9 o9))
      exact bodyPost_ret (cpu_ret2 Tryz.results168 _ _ (w.heap.size + 1) ({ x with c1 := v } : Cpu) (.int .i64 0) rfl rfl b9) rfl ⟨rfl, Below.only (lw.setCell (p := ⟨w.heap.size, 18, none⟩) (by first | (simp; done) | (simp; omega)) (.int .u32 v)) o9 (by omega)⟩
    · have HC := Lib.hid fun w' => control_in 2 (by omega) w'
      clear h
      go_enter Tryz.func168, Tryz.ntmps168
      go_upto_region 1 with fail
      obtain ⟨u0, hu⟩ : ∃ u0, (w.alloc (.cells x.cells.toArray 26)).alloc (.cells zC.cells.toArray 26) = u0 := ⟨_, rfl⟩
      rw [hu] at b4 b8 lw
      have hu2 : (w.alloc (.cells x.cells.toArray 26)).alloc (.cells #[.int .u32 0, .int .u32 0, .int .u32 0, .int .u32 0, .int .u32 0, .int .u32 0, .int .u32 0, .int .u32 0, .int .u32 0, .int .u32 0, .int .u32 0, .int .u32 0, .int .u32 0, .int .u32 0, .int .u32 0, .int .u32 0, .int .u32 0, .int .u32 0, .int .u32 0, .int .u32 0, .int .u32 0, .int .u32 0, .int .u32 0, .int .u32 0, .int .u32 0, .int .u32 0, .bool false, .bool false, .bool false, .int .i64 0] 26) = u0 := hu
      rw [hu2]
      clear hu hu2
      have e1 := b4.cell (j := 19) (v := .int .u32 x.c2) rfl
      have f1 := b4.frz 19
      go_wp2_with (first | (go_at_call 183; refine (HC.out _).mono ?_; rintro e w1 ⟨rfl, rfl⟩) | ((with_reducible refine wpList_load_blk (o := ⟨some 26, .load 26 (.tmp 3), _, _, _, none⟩) rfl _ _ rfl w.heap.size 26 ({ x with c2 := v } : Cpu).cells _ ?_ ?_ Tryz.underlying26 rfl (cpu_sz _) ?_); rfl; exact (b4.set 19 (.int .u32 v))) | ((with_reducible refine wpList_store_abs (o := ⟨none, .store 26 (.tmp 6) (.tmp 26), _, _, _, none⟩) rfl _ _ _ rfl (w.heap.size + 1) 26 zC.cells ({ x with c2 := v } : Cpu).cells ?_ ?_ ?_ ?_ ?_ ?_ ?_); rfl; rfl; exact (b8.set_other ⟨w.heap.size, 19, none⟩ (.int .u32 v) (by first | (simp; done) | (simp; omega))); exact cpu_sz _; rfl; exact cpu_one _; intro w9 b9 o9))
      exact bodyPost_ret (cpu_ret2 Tryz.results168 _ _ (w.heap.size + 1) ({ x with c2 := v } : Cpu) (.int .i64 0) rfl rfl b9) rfl ⟨rfl, Below.only (lw.setCell (p := ⟨w.heap.size, 19, none⟩) (by first | (simp; done) | (simp; omega)) (.int .u32 v)) o9 (by omega)⟩
    · have HC := Lib.hid fun w' => control_in 3 (by omega) w'
      clear h
      go_enter Tryz.func168, Tryz.ntmps168
      go_upto_region 1 with fail
      obtain ⟨u0, hu⟩ : ∃ u0, (w.alloc (.cells x.cells.toArray 26)).alloc (.cells zC.cells.toArray 26) = u0 := ⟨_, rfl⟩
      rw [hu] at b4 b8 lw
      have hu2 : (w.alloc (.cells x.cells.toArray 26)).alloc (.cells #[.int .u32 0, .int .u32 0, .int .u32 0, .int .u32 0, .int .u32 0, .int .u32 0, .int .u32 0, .int .u32 0, .int .u32 0, .int .u32 0, .int .u32 0, .int .u32 0, .int .u32 0, .int .u32 0, .int .u32 0, .int .u32 0, .int .u32 0, .int .u32 0, .int .u32 0, .int .u32 0, .int .u32 0, .int .u32 0, .int .u32 0, .int .u32 0, .int .u32 0, .int .u32 0, .bool false, .bool false, .bool false, .int .i64 0] 26) = u0 := hu
      rw [hu2]
      clear hu hu2
      have e1 := b4.cell (j := 20) (v := .int .u32 x.c3) rfl
      have f1 := b4.frz 20
      go_wp2_with (first | (go_at_call 183; refine (HC.out _).mono ?_; rintro e w1 ⟨rfl, rfl⟩) | ((with_reducible refine wpList_load_blk (o := ⟨some 26, .load 26 (.tmp 3), _, _, _, none⟩) rfl _ _ rfl w.heap.size 26 ({ x with c3 := v } : Cpu).cells _ ?_ ?_ Tryz.underlying26 rfl (cpu_sz _) ?_); rfl; exact (b4.set 20 (.int .u32 v))) | ((with_reducible refine wpList_store_abs (o := ⟨none, .store 26 (.tmp 6) (.tmp 26), _, _, _, none⟩) rfl _ _ _ rfl (w.heap.size + 1) 26 zC.cells ({ x with c3 := v } : Cpu).cells ?_ ?_ ?_ ?_ ?_ ?_ ?_); rfl; rfl; exact (b8.set_other ⟨w.heap.size, 20, none⟩ (.int .u32 v) (by first | (simp; done) | (simp; omega))); exact cpu_sz _; rfl; exact cpu_one _; intro w9 b9 o9))
      exact bodyPost_ret (cpu_ret2 Tryz.results168 _ _ (w.heap.size + 1) ({ x with c3 := v } : Cpu) (.int .i64 0) rfl rfl b9) rfl ⟨rfl, Below.only (lw.setCell (p := ⟨w.heap.size, 20, none⟩) (by first | (simp; done) | (simp; omega)) (.int .u32 v)) o9 (by omega)⟩
    · have HC := Lib.hid fun w' => control_in 4 (by omega) w'
      clear h
      go_enter Tryz.func168, Tryz.ntmps168
      go_upto_region 1 with fail
      obtain ⟨u0, hu⟩ : ∃ u0, (w.alloc (.cells x.cells.toArray 26)).alloc (.cells zC.cells.toArray 26) = u0 := ⟨_, rfl⟩
      rw [hu] at b4 b8 lw
      have hu2 : (w.alloc (.cells x.cells.toArray 26)).alloc (.cells #[.int .u32 0, .int .u32 0, .int .u32 0, .int .u32 0, .int .u32 0, .int .u32 0, .int .u32 0, .int .u32 0, .int .u32 0, .int .u32 0, .int .u32 0, .int .u32 0, .int .u32 0, .int .u32 0, .int .u32 0, .int .u32 0, .int .u32 0, .int .u32 0, .int .u32 0, .int .u32 0, .int .u32 0, .int .u32 0, .int .u32 0, .int .u32 0, .int .u32 0, .int .u32 0, .bool false, .bool false, .bool false, .int .i64 0] 26) = u0 := hu
      rw [hu2]
      clear hu hu2
      have e1 := b4.cell (j := 21) (v := .int .u32 x.c4) rfl
      have f1 := b4.frz 21
      go_wp2_with (first | (go_at_call 183; refine (HC.out _).mono ?_; rintro e w1 ⟨rfl, rfl⟩) | ((with_reducible refine wpList_load_blk (o := ⟨some 26, .load 26 (.tmp 3), _, _, _, none⟩) rfl _ _ rfl w.heap.size 26 ({ x with c4 := v } : Cpu).cells _ ?_ ?_ Tryz.underlying26 rfl (cpu_sz _) ?_); rfl; exact (b4.set 21 (.int .u32 v))) | ((with_reducible refine wpList_store_abs (o := ⟨none, .store 26 (.tmp 6) (.tmp 26), _, _, _, none⟩) rfl _ _ _ rfl (w.heap.size + 1) 26 zC.cells ({ x with c4 := v } : Cpu).cells ?_ ?_ ?_ ?_ ?_ ?_ ?_); rfl; rfl; exact (b8.set_other ⟨w.heap.size, 21, none⟩ (.int .u32 v) (by first | (simp; done) | (simp; omega))); exact cpu_sz _; rfl; exact cpu_one _; intro w9 b9 o9))
      exact bodyPost_ret (cpu_ret2 Tryz.results168 _ _ (w.heap.size + 1) ({ x with c4 := v } : Cpu) (.int .i64 0) rfl rfl b9) rfl ⟨rfl, Below.only (lw.setCell (p := ⟨w.heap.size, 21, none⟩) (by first | (simp; done) | (simp; omega)) (.int .u32 v)) o9 (by omega)⟩
    · have HC := Lib.hid fun w' => control_in 5 (by omega) w'
      clear h
      go_enter Tryz.func168, Tryz.ntmps168
      go_upto_region 1 with fail
      obtain ⟨u0, hu⟩ : ∃ u0, (w.alloc (.cells x.cells.toArray 26)).alloc (.cells zC.cells.toArray 26) = u0 := ⟨_, rfl⟩
      rw [hu] at b4 b8 lw
      have hu2 : (w.alloc (.cells x.cells.toArray 26)).alloc (.cells #[.int .u32 0, .int .u32 0, .int .u32 0, .int .u32 0, .int .u32 0, .int .u32 0, .int .u32 0, .int .u32 0, .int .u32 0, .int .u32 0, .int .u32 0, .int .u32 0, .int .u32 0, .int .u32 0, .int .u32 0, .int .u32 0, .int .u32 0, .int .u32 0, .int .u32 0, .int .u32 0, .int .u32 0, .int .u32 0, .int .u32 0, .int .u32 0, .int .u32 0, .int .u32 0, .bool false, .bool false, .bool false, .int .i64 0] 26) = u0 := hu
      rw [hu2]
      clear hu hu2
      have e1 := b4.cell (j := 22) (v := .int .u32 x.c5) rfl
      have f1 := b4.frz 22
      go_wp2_with (first | (go_at_call 183; refine (HC.out _).mono ?_; rintro e w1 ⟨rfl, rfl⟩) | ((with_reducible refine wpList_load_blk (o := ⟨some 26, .load 26 (.tmp 3), _, _, _, none⟩) rfl _ _ rfl w.heap.size 26 ({ x with c5 := (v % 8) } : Cpu).cells _ ?_ ?_ Tryz.underlying26 rfl (cpu_sz _) ?_); rfl; exact (b4.set 22 (.int .u32 (v % 8)))) | ((with_reducible refine wpList_store_abs (o := ⟨none, .store 26 (.tmp 6) (.tmp 26), _, _, _, none⟩) rfl _ _ _ rfl (w.heap.size + 1) 26 zC.cells ({ x with c5 := (v % 8) } : Cpu).cells ?_ ?_ ?_ ?_ ?_ ?_ ?_); rfl; rfl; exact (b8.set_other ⟨w.heap.size, 22, none⟩ (.int .u32 (v % 8)) (by first | (simp; done) | (simp; omega))); exact cpu_sz _; rfl; exact cpu_one _; intro w9 b9 o9))
      exact bodyPost_ret (cpu_ret2 Tryz.results168 _ _ (w.heap.size + 1) ({ x with c5 := (v % 8) } : Cpu) (.int .i64 0) rfl rfl b9) rfl ⟨rfl, Below.only (lw.setCell (p := ⟨w.heap.size, 22, none⟩) (by first | (simp; done) | (simp; omega)) (.int .u32 (v % 8))) o9 (by omega)⟩
    · have HC := Lib.hid fun w' => control_in 6 (by omega) w'
      clear h
      go_enter Tryz.func168, Tryz.ntmps168
      go_upto_region 1 with fail
      obtain ⟨u0, hu⟩ : ∃ u0, (w.alloc (.cells x.cells.toArray 26)).alloc (.cells zC.cells.toArray 26) = u0 := ⟨_, rfl⟩
      rw [hu] at b4 b8 lw
      have hu2 : (w.alloc (.cells x.cells.toArray 26)).alloc (.cells #[.int .u32 0, .int .u32 0, .int .u32 0, .int .u32 0, .int .u32 0, .int .u32 0, .int .u32 0, .int .u32 0, .int .u32 0, .int .u32 0, .int .u32 0, .int .u32 0, .int .u32 0, .int .u32 0, .int .u32 0, .int .u32 0, .int .u32 0, .int .u32 0, .int .u32 0, .int .u32 0, .int .u32 0, .int .u32 0, .int .u32 0, .int .u32 0, .int .u32 0, .int .u32 0, .bool false, .bool false, .bool false, .int .i64 0] 26) = u0 := hu
      rw [hu2]
      clear hu hu2
      have e1 := b4.cell (j := 23) (v := .int .u32 x.c6) rfl
      have f1 := b4.frz 23
      go_wp2_with (first | (go_at_call 183; refine (HC.out _).mono ?_; rintro e w1 ⟨rfl, rfl⟩) | ((with_reducible refine wpList_load_blk (o := ⟨some 26, .load 26 (.tmp 3), _, _, _, none⟩) rfl _ _ rfl w.heap.size 26 ({ x with c6 := v } : Cpu).cells _ ?_ ?_ Tryz.underlying26 rfl (cpu_sz _) ?_); rfl; exact (b4.set 23 (.int .u32 v))) | ((with_reducible refine wpList_store_abs (o := ⟨none, .store 26 (.tmp 6) (.tmp 26), _, _, _, none⟩) rfl _ _ _ rfl (w.heap.size + 1) 26 zC.cells ({ x with c6 := v } : Cpu).cells ?_ ?_ ?_ ?_ ?_ ?_ ?_); rfl; rfl; exact (b8.set_other ⟨w.heap.size, 23, none⟩ (.int .u32 v) (by first | (simp; done) | (simp; omega))); exact cpu_sz _; rfl; exact cpu_one _; intro w9 b9 o9))
      exact bodyPost_ret (cpu_ret2 Tryz.results168 _ _ (w.heap.size + 1) ({ x with c6 := v } : Cpu) (.int .i64 0) rfl rfl b9) rfl ⟨rfl, Below.only (lw.setCell (p := ⟨w.heap.size, 23, none⟩) (by first | (simp; done) | (simp; omega)) (.int .u32 v)) o9 (by omega)⟩
  · rw [(put_out (x := x) (v := v) h).1, (put_out (x := x) (v := v) h).2]
    by_cases h2 : 0 ≤ n ∧ n < 9
    · have HC := Lib.hid fun w' => control_in n h2 w'
      rcases (show n = 7 ∨ n = 8 by omega) with rfl | rfl
      · clear h h2
        go_enter Tryz.func168, Tryz.ntmps168
        go_upto_region 1 with fail
        obtain ⟨u0, hu⟩ : ∃ u0, (w.alloc (.cells x.cells.toArray 26)).alloc (.cells zC.cells.toArray 26) = u0 := ⟨_, rfl⟩
        rw [hu] at b4 b8 lw
        have hu2 : (w.alloc (.cells x.cells.toArray 26)).alloc (.cells #[.int .u32 0, .int .u32 0, .int .u32 0, .int .u32 0, .int .u32 0, .int .u32 0, .int .u32 0, .int .u32 0, .int .u32 0, .int .u32 0, .int .u32 0, .int .u32 0, .int .u32 0, .int .u32 0, .int .u32 0, .int .u32 0, .int .u32 0, .int .u32 0, .int .u32 0, .int .u32 0, .int .u32 0, .int .u32 0, .int .u32 0, .int .u32 0, .int .u32 0, .int .u32 0, .bool false, .bool false, .bool false, .int .i64 0] 26) = u0 := hu
        rw [hu2]
        clear hu hu2
        go_wp2_with (first | (go_at_call 183; refine (HC.out _).mono ?_; rintro e w1 ⟨rfl, rfl⟩) | ((with_reducible refine wpList_load_blk (o := ⟨some 16, .load 26 (.tmp 3), _, _, _, none⟩) rfl _ _ rfl w.heap.size 26 x.cells _ ?_ ?_ Tryz.underlying26 rfl (cpu_sz _) ?_); rfl; exact b4) | ((with_reducible refine wpList_store_abs (o := ⟨none, .store 26 (.tmp 6) (.tmp 16), _, _, _, none⟩) rfl _ _ _ rfl (w.heap.size + 1) 26 zC.cells x.cells ?_ ?_ ?_ ?_ ?_ ?_ ?_); rfl; rfl; exact b8; exact cpu_sz _; rfl; exact cpu_one _; intro w9 b9 o9))
        exact bodyPost_ret (cpu_ret2 Tryz.results168 _ _ (w.heap.size + 1) x (.int .i64 1) rfl rfl b9) rfl ⟨rfl, Below.only lw o9 (by omega)⟩
      · clear h h2
        go_enter Tryz.func168, Tryz.ntmps168
        go_upto_region 1 with fail
        obtain ⟨u0, hu⟩ : ∃ u0, (w.alloc (.cells x.cells.toArray 26)).alloc (.cells zC.cells.toArray 26) = u0 := ⟨_, rfl⟩
        rw [hu] at b4 b8 lw
        have hu2 : (w.alloc (.cells x.cells.toArray 26)).alloc (.cells #[.int .u32 0, .int .u32 0, .int .u32 0, .int .u32 0, .int .u32 0, .int .u32 0, .int .u32 0, .int .u32 0, .int .u32 0, .int .u32 0, .int .u32 0, .int .u32 0, .int .u32 0, .int .u32 0, .int .u32 0, .int .u32 0, .int .u32 0, .int .u32 0, .int .u32 0, .int .u32 0, .int .u32 0, .int .u32 0, .int .u32 0, .int .u32 0, .int .u32 0, .int .u32 0, .bool false, .bool false, .bool false, .int .i64 0] 26) = u0 := hu
        rw [hu2]
        clear hu hu2
        go_wp2_with (first | (go_at_call 183; refine (HC.out _).mono ?_; rintro e w1 ⟨rfl, rfl⟩) | ((with_reducible refine wpList_load_blk (o := ⟨some 16, .load 26 (.tmp 3), _, _, _, none⟩) rfl _ _ rfl w.heap.size 26 x.cells _ ?_ ?_ Tryz.underlying26 rfl (cpu_sz _) ?_); rfl; exact b4) | ((with_reducible refine wpList_store_abs (o := ⟨none, .store 26 (.tmp 6) (.tmp 16), _, _, _, none⟩) rfl _ _ _ rfl (w.heap.size + 1) 26 zC.cells x.cells ?_ ?_ ?_ ?_ ?_ ?_ ?_); rfl; rfl; exact b8; exact cpu_sz _; rfl; exact cpu_one _; intro w9 b9 o9))
        exact bodyPost_ret (cpu_ret2 Tryz.results168 _ _ (w.heap.size + 1) x (.int .i64 1) rfl rfl b9) rfl ⟨rfl, Below.only lw o9 (by omega)⟩
    · have HC := Lib.hid fun w' => control_out n h2 w'
      clear h h2
      go_enter Tryz.func168, Tryz.ntmps168
      go_upto_region 1 with fail
      obtain ⟨u0, hu⟩ : ∃ u0, (w.alloc (.cells x.cells.toArray 26)).alloc (.cells zC.cells.toArray 26) = u0 := ⟨_, rfl⟩
      rw [hu] at b4 b8 lw
      have hu2 : (w.alloc (.cells x.cells.toArray 26)).alloc (.cells #[.int .u32 0, .int .u32 0, .int .u32 0, .int .u32 0, .int .u32 0, .int .u32 0, .int .u32 0, .int .u32 0, .int .u32 0, .int .u32 0, .int .u32 0, .int .u32 0, .int .u32 0, .int .u32 0, .int .u32 0, .int .u32 0, .int .u32 0, .int .u32 0, .int .u32 0, .int .u32 0, .int .u32 0, .int .u32 0, .int .u32 0, .int .u32 0, .int .u32 0, .int .u32 0, .bool false, .bool false, .bool false, .int .i64 0] 26) = u0 := hu
      rw [hu2]
      clear hu hu2
      go_wp2_with (first | (go_at_call 183; refine (HC.out _).mono ?_; rintro e w1 ⟨rfl, rfl⟩) | ((with_reducible refine wpList_load_blk (o := ⟨some 16, .load 26 (.tmp 3), _, _, _, none⟩) rfl _ _ rfl w.heap.size 26 x.cells _ ?_ ?_ Tryz.underlying26 rfl (cpu_sz _) ?_); rfl; exact b4) | ((with_reducible refine wpList_store_abs (o := ⟨none, .store 26 (.tmp 6) (.tmp 16), _, _, _, none⟩) rfl _ _ _ rfl (w.heap.size + 1) 26 zC.cells x.cells ?_ ?_ ?_ ?_ ?_ ?_ ?_); rfl; rfl; exact b8; exact cpu_sz _; rfl; exact cpu_one _; intro w9 b9 o9))
      exact bodyPost_ret (cpu_ret2 Tryz.results168 _ _ (w.heap.size + 1) x (.int .i64 1) rfl rfl b9) rfl ⟨rfl, Below.only lw o9 (by omega)⟩
end Go.Proofs.YtidhodalnikhlaaGreatDoor

/-
  PROCESSORS: the reference's Read and Write.
-/
namespace Go.Proofs.YtidhodalnikhlaaGreatDoor
open Go.RowKit Go.ChangeShapes Go.WideShapes Go.ChangeAt

set_option maxRecDepth 100000 in
/-- A register, a processor, an error. -/
def gotC (a : Int) (c : Cpu) (e : Int) : List Value := .int .u32 a :: (c.cells ++ [.int .i64 e])
set_option maxRecDepth 100000 in
theorem wpList_bld {ops : Array Oper} {rest : List Oper} {o : Oper} {a : Act} {w : World} {Q : Exit → Act → World → Prop} (hg : o.guard = none) (t : TypeId) (fs : Array (Nat × Operand)) (vs : Array (Nat × Value)) (C : Array Value) (ho : o.op = .build t fs)
    (hv : fs.toList.map (fun x => (x.1, a.eval x.2)) = vs.toList) (hr : (Instr.build t vs).run Tryz.prog w = .ok (.agg C) w)
    (hK : wpList Tryz.prog ops Q rest (a.put o.dst (.agg C)) w) : wpList Tryz.prog ops Q (o :: rest) a w := by
  refine wpList_plain hg fun K' hK' => ?_
  have e : fs.map (fun x => (x.1, a.eval x.2)) = vs := by
    apply Array.toList_inj.1; rw [Array.toList_map]; exact hv
  unfold Oper.wp execOp
  simp only [ho, e, Sem.run_bind, hr, Sem.run_pure, Result.andThen_ok]
  exact hK' _ _ hK
end Go.Proofs.YtidhodalnikhlaaGreatDoor

/-
  PROCESSORS: what the laws need: processors compared, a processor as an argument, its registers loaded whole.
-/
namespace Go.Proofs.YtidhodalnikhlaaGreatDoor
open Go.RowKit Go.ChangeShapes Go.WideShapes Go.ChangeAt

set_option maxRecDepth 100000 in
def Cpu.regs (x : Cpu) : List Value := [.int .u32 x.r0, .int .u32 x.r1, .int .u32 x.r2, .int .u32 x.r3, .int .u32 x.r4, .int .u32 x.r5, .int .u32 x.r6, .int .u32 x.r7, .int .u32 x.r8, .int .u32 x.r9, .int .u32 x.r10, .int .u32 x.r11, .int .u32 x.r12, .int .u32 x.r13, .int .u32 x.r14, .int .u32 x.r15]
set_option maxRecDepth 100000 in
/-- A processor's numbers are numbers. -/
def Cpu.wf (x : Cpu) : Prop := w32 [x.pc, x.r0, x.r1, x.r2, x.r3, x.r4, x.r5, x.r6, x.r7, x.r8, x.r9, x.r10, x.r11, x.r12, x.r13, x.r14, x.r15, x.c0, x.c1, x.c2, x.c3, x.c4, x.c5, x.c6, x.c7, x.c8] ∧ -9223372036854775808 ≤ x.cn ∧ x.cn ≤ 9223372036854775807
set_option maxRecDepth 100000 in
theorem Cpu.wf.c5 {x : Cpu} (h : x.wf) : Tm.isE x.c5 := by
  have := h.1 x.c5 (by simp)
  exact ⟨this.1, by omega⟩
section
variable {H : Type} {enc : TypeId × Value → H} {W : World} {r : Reach} {b0 : Nat} {v : Value} {d : DataW H} {p : List MemPlace}
set_option maxRecDepth 100000 in
theorem cpu_open (hv : Value.okWide Tryz.prog W r b0 26 v) (h : DataW.Trod enc Tryz.prog W 0 (fun _ => true) true 26 v d p) : ∃ x : Cpu, v = .agg x.cells.toArray ∧ x.wf := by
  obtain ⟨pc, r0, r1, r2, r3, r4, r5, r6, r7, r8, r9, r10, r11, r12, r13, r14, r15, c0, c1, c2, c3, c4, c5, c6, c7, c8, u, wt, hl, cn, rfl, h1, h2, h3⟩ := cpu_arg (tu := 22) (tr := 23) (tc := 24) (tb := 4) (ti := 3) Tryz.underlying26 rfl Tryz.underlying22 Tryz.underlying23 Tryz.underlying24 Tryz.underlying4 Tryz.underlying3 (by kernel_rfl) (by kernel_rfl) (by kernel_rfl) (by kernel_rfl) (by kernel_rfl) (by kernel_rfl) hv h
  exact ⟨⟨pc, r0, r1, r2, r3, r4, r5, r6, r7, r8, r9, r10, r11, r12, r13, r14, r15, c0, c1, c2, c3, c4, c5, c6, c7, c8, u, wt, hl, cn⟩, rfl, h1, h2, h3⟩
end
end Go.Proofs.YtidhodalnikhlaaGreatDoor
