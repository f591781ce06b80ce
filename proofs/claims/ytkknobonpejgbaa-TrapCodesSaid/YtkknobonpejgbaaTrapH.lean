/-
  PROCESSORS: the statements' sanity check.
-/
import Derived.Test.YtkknobonpejgbaaTrapG
namespace Go.Proofs.Ytkknobonpejgbaa
open Go.RowKit Go.ChangeShapes Go.WideShapes Go.ChangeAt

theorem wpList_load_g {P : Program} {ops : Array Oper} {rest : List Oper} {o : Oper} {a : Act} {w : World} {Q : Exit → Act → World → Prop} (ty : TypeId) (x : Operand) (ho : o.op = .load ty x)
    (g : Nat) (t : TypeId) (cs : List Value) (d : TypeDesc) (hw : Region.wanted o (yielded ops a.tmps) = true) (hx : a.eval x = .pointer (some ⟨g, 0, none⟩)) (hg : Blk w g t cs)
    (hu : P.underlying ty = some d) (hd : (match d with | .struct _ | .array _ _ => true | _ => false) = true) (hi : (P.info? ty).map (·.size) = some cs.length)
    (h : wpList P ops Q rest (a.put o.dst (.agg cs.toArray)) w) : wpList P ops Q (o :: rest) a w :=
  wpList_step fun K hK => by
    rw [hw, if_pos rfl]
    exact wp_load_row ty x ho g hx t cs.toArray (0, 0) d hg hu hd (by rw [List.size_toArray]; exact hi) (hK _ _ h)
def sA : Cpu := Cpu.start 0 64
def sB : Cpu := Cpu.start 2 64
def sC : Cpu := { sA with u := true, c5 := 1, c1 := 128 }
def sD : Cpu := Cpu.enter sC 5 9 4
def sF : Cpu := Cpu.back sD
def sW : Cpu := sC.put 5 255
theorem isE_of {e : Int} (h0 : 0 ≤ e) (h1 : e < 4294967296) : Tm.isE e := ⟨h0, h1⟩
theorem s_valid (w : World) : Calls Try.prog 10 #[.agg sA.cells.toArray] w fun e w' => e = .returned (.bool true) ∧ Later w w' := by
  have h := valid_any sA w
  rwa [show okC sA.r0 sA.c5 sA.c7 sA.c8 sA.wt sA.hl sA.cn = true by decide +kernel] at h
theorem s_due (p n : Int) (b : Bool) (hn : dueN (Tm.has sC.c5 1) p = n) (hb : dueB (Tm.has sC.c5 1) p = b) (hp : Tm.isE p) (w : World) : Calls Try.prog 15 #[.agg sC.cells.toArray, .int .u32 p] w fun e w' => e = .returned (.tuple #[.int .i64 n, .bool b]) ∧ Later w w' := by
  have h := due_any sC p w (isE_of (by decide +kernel) (by decide +kernel)) hp
  rwa [hn, hb] at h
theorem s_write (n v : Int) (X : Cpu) (e : Int) (hX : sC.put n v = X) (he : errW n = e) (hv : Tm.isE v) (w : World) : Calls Try.prog 24 #[.agg sC.cells.toArray, .int .i64 n, .int .u32 v] w fun r w' => r = .returned (.tuple #[.agg X.cells.toArray, .int .i64 e]) ∧ Later w w' := by
  have h := write_any sC n v w hv
  rwa [hX, he] at h
set_option maxRecDepth 100000 in
set_option maxHeartbeats 4000000 in
theorem sanity_any (w : World) : Calls Try.prog 14 #[] w fun e w' => e = .returned (.bool true) ∧ Later w w' := by
  have K1 := Lib.hid fun w' => (begin_any 0 64 w' (by omega))
  have K2 := Lib.hid fun w' => (begin_any 2 64 w' (by omega))
  have K3 := Lib.hid s_valid
  have K4 := Lib.hid fun w' => enter_any sC 5 9 4 w' (isE_of (by decide +kernel) (by decide +kernel))
  have K5 := Lib.hid fun w' => return_any sD w' (isE_of (by decide +kernel) (by decide +kernel))
  have K6 := Lib.hid fun w' => s_due 6 1 true (by decide +kernel) (by decide +kernel) (isE_of (by omega) (by omega)) w'
  have K7 := Lib.hid fun w' => s_due 32 0 false (by decide +kernel) (by decide +kernel) (isE_of (by omega) (by omega)) w'
  have K8 := Lib.hid fun w' => s_due 0 0 false (by decide +kernel) (by decide +kernel) (isE_of (by omega) (by omega)) w'
  have K9 := Lib.hid fun w' => s_write 7 1 sC 1 rfl (by decide +kernel) (isE_of (by omega) (by omega)) w'
  have K10 := Lib.hid fun w' => s_write 5 255 sW 0 rfl (by decide +kernel) (isE_of (by omega) (by omega)) w'
  have K11 := Lib.hid fun w' => s_write 9 1 sC 1 rfl (by decide +kernel) (isE_of (by omega) (by omega)) w'
  rw [show Cpu.start 0 64 = sA from rfl] at K1
  rw [show Cpu.start 2 64 = sB from rfl] at K2
  rw [show Cpu.enter sC 5 9 4 = sD from rfl] at K4
  rw [show Cpu.back sD = sF from rfl] at K5
  go_enter Try.func14, Try.ntmps14
  go_wp2_with (first
    | (go_at_call 12; (with_reducible refine (K1.out _).mono ?_); rintro e w1 ⟨rfl, l1⟩; have lw := l1)
    | ((with_reducible refine wpList_store_abs (o := ⟨none, .store 26 (.tmp 1) (.tmp 18), _, _, _, none⟩) rfl _ _ _ rfl w1.heap.size 26 zC.cells sA.cells ?_ ?_ ?_ ?_ ?_ ?_ ?_); rfl; rfl; exact (Blk.new _ _ _ _ rfl); exact cpu_sz _; rfl; exact cpu_one _; intro v1 b1 o1; replace lw := Below.only (lw.alloc lw.size (.cells zC.cells.toArray 26)) o1 lw.size)
    | (go_at_call 12; (with_reducible refine (K2.out _).mono ?_); rintro e w2 ⟨rfl, l2⟩; replace b1 := b1.keep l2; replace lw := Later.trans_ lw l2)
    | ((with_reducible refine wpList_store_abs (o := ⟨none, .store 26 (.tmp 2) (.tmp 19), _, _, _, none⟩) rfl _ _ _ rfl w2.heap.size 26 zC.cells sB.cells ?_ ?_ ?_ ?_ ?_ ?_ ?_); rfl; rfl; exact (Blk.new _ _ _ _ rfl); exact cpu_sz _; rfl; exact cpu_one _; intro v2 b2 o2; replace b1 := (b1.alloc (.cells zC.cells.toArray 26)).only o2 (Nat.ne_of_lt b1.lt); replace lw := Below.only (lw.alloc lw.size (.cells zC.cells.toArray 26)) o2 lw.size; have q1 := b1.cell (j := 0) (v := .int .u32 64) rfl; have q2 := b1.cell (j := 27) (v := .bool false) rfl; have q3 := b2.cell (j := 0) (v := .int .u32 64) rfl; have q4 := b2.cell (j := 27) (v := .bool true) rfl; have q5 := b2.cell (j := 25) (v := .int .u32 2) rfl)
    | ((with_reducible refine wpList_load_g (o := ⟨some 44, .load 26 (.tmp 1), _, _, _, _⟩) _ _ rfl w1.heap.size 26 sA.cells _ ?_ ?_ ?_ Try.underlying26 ?_ (cpu_sz _) ?_); rfl; rfl; exact b1; rfl)
    | (go_at_call 10; (with_reducible refine (K3.out _).mono ?_); rintro e w3 ⟨rfl, l3⟩; replace b1 := b1.keep l3; replace b2 := b2.keep l3; replace lw := Later.trans_ lw l3; clear q1 q2 q3 q4 q5; have hz3 : w.heap.size ≤ w3.heap.size := lw.size)
    | ((with_reducible refine wpList_load_blk (o := ⟨some 48, .load 26 (.tmp 1), _, _, _, none⟩) rfl _ _ rfl w1.heap.size 26 sA.cells _ ?_ ?_ Try.underlying26 rfl (cpu_sz _) ?_); rfl; exact b1)
    | ((with_reducible refine wpList_store_abs (o := ⟨none, .store 26 (.tmp 3) (.tmp 48), _, _, _, none⟩) rfl _ _ _ rfl w3.heap.size 26 zC.cells sA.cells ?_ ?_ ?_ ?_ ?_ ?_ ?_); rfl; rfl; exact (Blk.new _ _ _ _ rfl); exact cpu_sz _; rfl; exact cpu_one _; intro v3 b3 o3; replace b1 := (b1.alloc (.cells zC.cells.toArray 26)).only o3 (Nat.ne_of_lt b1.lt); replace b2 := (b2.alloc (.cells zC.cells.toArray 26)).only o3 (Nat.ne_of_lt b2.lt); replace lw := Below.only (lw.alloc lw.size (.cells zC.cells.toArray 26)) o3 lw.size; have e1 := b3.cell (j := 26) (v := .bool false) rfl; have f1 := b3.frz 26; have e2 := b3.cell (j := 22) (v := .int .u32 0) rfl; have f2 := b3.frz 22; have e3 := b3.cell (j := 18) (v := .int .u32 0) rfl; have f3 := b3.frz 18)
    | ((with_reducible refine wpList_load_blk (o := ⟨some 54, .load 26 (.tmp 3), _, _, _, none⟩) rfl _ _ rfl w3.heap.size 26 sC.cells _ ?_ ?_ Try.underlying26 rfl (cpu_sz _) ?_); rfl; exact (((b3.set 26 (.bool true)).set 22 (.int .u32 1)).set 18 (.int .u32 128)); have b3n : Blk _ w3.heap.size 26 sC.cells := (((b3.set 26 (.bool true)).set 22 (.int .u32 1)).set 18 (.int .u32 128)); replace lw := (((lw.setCell (p := ⟨w3.heap.size, 26, none⟩) hz3 (.bool true)).setCell (p := ⟨w3.heap.size, 22, none⟩) hz3 (.int .u32 1)).setCell (p := ⟨w3.heap.size, 18, none⟩) hz3 (.int .u32 128)); clear e1 f1 e2 f2 e3 f3 b1 b2; obtain ⟨u3, hu3⟩ : ∃ u3, u3 = (((v3.setCell ⟨w3.heap.size, 26, none⟩ (.bool true)).setCell ⟨w3.heap.size, 22, none⟩ (.int .u32 1)).setCell ⟨w3.heap.size, 18, none⟩ (.int .u32 128)) := ⟨_, rfl⟩; rw [← hu3] at b3n lw ⊢; clear hu3 b3)
    | (go_at_call 17; (with_reducible refine (K4.out _).mono ?_); rintro e w4 ⟨rfl, l4⟩; replace b3n := b3n.keep l4; replace lw := Later.trans_ lw l4)
    | ((with_reducible refine wpList_store_abs (o := ⟨none, .store 26 (.tmp 4) (.tmp 55), _, _, _, none⟩) rfl _ _ _ rfl w4.heap.size 26 zC.cells sD.cells ?_ ?_ ?_ ?_ ?_ ?_ ?_); rfl; rfl; exact (Blk.new _ _ _ _ rfl); exact cpu_sz _; rfl; exact cpu_one _; intro v4 b4 o4; replace b3n := (b3n.alloc (.cells zC.cells.toArray 26)).only o4 (Nat.ne_of_lt b3n.lt); replace lw := Below.only (lw.alloc lw.size (.cells zC.cells.toArray 26)) o4 lw.size)
    | ((with_reducible refine wpList_load_blk (o := ⟨some 56, .load 26 (.tmp 4), _, _, _, none⟩) rfl _ _ rfl w4.heap.size 26 sD.cells _ ?_ ?_ Try.underlying26 rfl (cpu_sz _) ?_); rfl; exact b4)
    | (go_at_call 19; (with_reducible refine (K5.out _).mono ?_); rintro e w5 ⟨rfl, l5⟩; replace b3n := b3n.keep l5; replace b4 := b4.keep l5; replace lw := Later.trans_ lw l5)
    | ((with_reducible refine wpList_store_abs (o := ⟨none, .store 26 (.tmp 5) (.tmp 57), _, _, _, none⟩) rfl _ _ _ rfl w5.heap.size 26 zC.cells sF.cells ?_ ?_ ?_ ?_ ?_ ?_ ?_); rfl; rfl; exact (Blk.new _ _ _ _ rfl); exact cpu_sz _; rfl; exact cpu_one _; intro v5 b5 o5; replace b3n := (b3n.alloc (.cells zC.cells.toArray 26)).only o5 (Nat.ne_of_lt b3n.lt); replace b4 := (b4.alloc (.cells zC.cells.toArray 26)).only o5 (Nat.ne_of_lt b4.lt); replace lw := Below.only (lw.alloc lw.size (.cells zC.cells.toArray 26)) o5 lw.size; have q1 := b4.cell (j := 0) (v := .int .u32 128) rfl; have q2 := b4.cell (j := 26) (v := .bool false) rfl; have q3 := b4.cell (j := 22) (v := .int .u32 6) rfl; have q4 := b4.cell (j := 19) (v := .int .u32 4) rfl; have q5 := b5.cell (j := 0) (v := .int .u32 4) rfl; have q6 := b5.cell (j := 26) (v := .bool true) rfl; have q7 := b5.cell (j := 22) (v := .int .u32 3) rfl)
    | ((with_reducible refine wpList_load_blk (o := ⟨some 94, .load 26 (.tmp 3), _, _, _, none⟩) rfl _ _ rfl w3.heap.size 26 sC.cells _ ?_ ?_ Try.underlying26 rfl (cpu_sz _) ?_); rfl; exact b3n; clear b4 b5 q1 q2 q3 q4 q5 q6 q7)
    | (go_at_call 15; (with_reducible refine (K6.out _).mono ?_); rintro e w6 ⟨rfl, l6⟩; replace b3n := b3n.keep l6; replace lw := Later.trans_ lw l6)
    | ((with_reducible refine wpList_load_blk (o := ⟨some 99, .load 26 (.tmp 3), _, _, _, none⟩) rfl _ _ rfl w3.heap.size 26 sC.cells _ ?_ ?_ Try.underlying26 rfl (cpu_sz _) ?_); rfl; exact b3n)
    | (go_at_call 15; (with_reducible refine (K7.out _).mono ?_); rintro e w7 ⟨rfl, l7⟩; replace b3n := b3n.keep l7; replace lw := Later.trans_ lw l7)
    | ((with_reducible refine wpList_load_blk (o := ⟨some 104, .load 26 (.tmp 3), _, _, _, none⟩) rfl _ _ rfl w3.heap.size 26 sC.cells _ ?_ ?_ Try.underlying26 rfl (cpu_sz _) ?_); rfl; exact b3n)
    | (go_at_call 15; (with_reducible refine (K8.out _).mono ?_); rintro e w8 ⟨rfl, l8⟩; replace b3n := b3n.keep l8; replace lw := Later.trans_ lw l8)
    | ((with_reducible refine wpList_load_blk (o := ⟨some 109, .load 26 (.tmp 3), _, _, _, none⟩) rfl _ _ rfl w3.heap.size 26 sC.cells _ ?_ ?_ Try.underlying26 rfl (cpu_sz _) ?_); rfl; exact b3n)
    | (go_at_call 24; (with_reducible refine (K9.out _).mono ?_); rintro e w9 ⟨rfl, l9⟩; replace b3n := b3n.keep l9; replace lw := Later.trans_ lw l9)
    | ((with_reducible refine wpList_store_abs (o := ⟨none, .store 26 (.tmp 12) (.tmp 111), _, _, _, none⟩) rfl _ _ _ rfl w9.heap.size 26 zC.cells sC.cells ?_ ?_ ?_ ?_ ?_ ?_ ?_); rfl; rfl; exact (Blk.new _ _ _ _ rfl); exact cpu_sz _; rfl; exact cpu_one _; intro v9 b9 o9; replace b3n := (b3n.alloc (.cells zC.cells.toArray 26)).only o9 (Nat.ne_of_lt b3n.lt); replace lw := Below.only (lw.alloc lw.size (.cells zC.cells.toArray 26)) o9 lw.size; clear b9)
    | ((with_reducible refine wpList_load_blk (o := ⟨some 114, .load 26 (.tmp 3), _, _, _, none⟩) rfl _ _ rfl w3.heap.size 26 sC.cells _ ?_ ?_ Try.underlying26 rfl (cpu_sz _) ?_); rfl; exact b3n)
    | (go_at_call 24; (with_reducible refine (K10.out _).mono ?_); rintro e w10 ⟨rfl, l10⟩; replace b3n := b3n.keep l10; replace lw := Later.trans_ lw l10)
    | ((with_reducible refine wpList_store_abs (o := ⟨none, .store 26 (.tmp 14) (.tmp 116), _, _, _, none⟩) rfl _ _ _ rfl w10.heap.size 26 zC.cells sW.cells ?_ ?_ ?_ ?_ ?_ ?_ ?_); rfl; rfl; exact (Blk.new _ _ _ _ rfl); exact cpu_sz _; rfl; exact cpu_one _; intro v10 b10 o10; replace b3n := (b3n.alloc (.cells zC.cells.toArray 26)).only o10 (Nat.ne_of_lt b3n.lt); replace lw := Below.only (lw.alloc lw.size (.cells zC.cells.toArray 26)) o10 lw.size)
    | ((with_reducible refine wpList_load_blk (o := ⟨some 119, .load 26 (.tmp 3), _, _, _, none⟩) rfl _ _ rfl w3.heap.size 26 sC.cells _ ?_ ?_ Try.underlying26 rfl (cpu_sz _) ?_); rfl; exact b3n)
    | (go_at_call 24; (with_reducible refine (K11.out _).mono ?_); rintro e w11 ⟨rfl, l11⟩; replace b3n := b3n.keep l11; replace b10 := b10.keep l11; replace lw := Later.trans_ lw l11)
    | ((with_reducible refine wpList_store_abs (o := ⟨none, .store 26 (.tmp 16) (.tmp 121), _, _, _, none⟩) rfl _ _ _ rfl w11.heap.size 26 zC.cells sC.cells ?_ ?_ ?_ ?_ ?_ ?_ ?_); rfl; rfl; exact (Blk.new _ _ _ _ rfl); exact cpu_sz _; rfl; exact cpu_one _; intro v11 b11 o11; replace b3n := (b3n.alloc (.cells zC.cells.toArray 26)).only o11 (Nat.ne_of_lt b3n.lt); replace b10 := (b10.alloc (.cells zC.cells.toArray 26)).only o11 (Nat.ne_of_lt b10.lt); replace lw := Below.only (lw.alloc lw.size (.cells zC.cells.toArray 26)) o11 lw.size; have q1 := b10.cell (j := 22) (v := .int .u32 7) rfl))
  go_ret
  exact ⟨rfl, lw⟩
end Go.Proofs.Ytkknobonpejgbaa
