/-
  PROCESSORS: Begin, the reference's Begin and set.
-/
import Derived.Test.YtkknobonpejgbaaTrapA
namespace Go.Proofs.Ytkknobonpejgbaa
open Go.RowKit Go.ChangeShapes Go.WideShapes Go.ChangeAt

def zC : Cpu := ⟨0, 0, 0, 0, 0, 0, 0, 0, 0, 0, 0, 0, 0, 0, 0, 0, 0, 0, 0, 0, 0, 0, 0, 0, 0, 0, false, false, false, 0⟩
/-- A processor as it is at the beginning. -/
def Cpu.start (id x : Int) : Cpu := { zC with pc := x, c8 := id, wt := id != 0 }
theorem cpu_ret {fn : Func} {p : Tmp} (h : fn.results = #[.cell p 26]) (tmps : Array Value) (w : World) (B : Nat) (x : Cpu) (hp : tmps.getD p undef = .pointer (some ⟨B, 0, none⟩)) (hb : Blk w B 26 x.cells) : (results fn tmps).run Try.prog w = .ok (.agg x.cells.toArray) w :=
  results_blk h tmps w B 26 x.cells _ hp hb Try.underlying26 rfl (cpu_sz _)
set_option maxRecDepth 100000 in
theorem begin_any (id x : Int) (w : World) (h : 0 ≤ id ∧ id < 4) : Calls Try.prog 12 #[.int .i64 id, .int .u32 x] w fun e w' => e = .returned (.agg (Cpu.start id x).cells.toArray) ∧ Later w w' := by
  have hw : IntKind.u32.wrap id = id := by rw [IntKind.wrap_u32]; omega
  have lw0 := (later1 w (.cells zC.cells.toArray 26)).alloc (by simp) (.cells zC.cells.toArray 26)
  go_enter Try.func12, Try.ntmps12
  go_wp2_with (first
    | ((with_reducible refine wpList_load_blk (o := ⟨some 14, .load 26 (.tmp 5), _, _, _, none⟩) rfl _ _ rfl (w.heap.size + 1) 26 (Cpu.start id x).cells _ ?_ ?_ Try.underlying26 rfl (cpu_sz _) ?_); rfl; exact (b1.set 25 (.int .u32 id)))
    | ((with_reducible refine wpList_store_abs (o := ⟨none, .store 26 (.tmp 5) (.tmp 9), _, _, _, none⟩) rfl _ _ _ rfl (w.heap.size + 1) 26 zC.cells ({ zC with pc := x, wt := id != 0 } : Cpu).cells ?_ ?_ ?_ ?_ ?_ ?_ ?_); rfl; rfl; exact (Blk.new' _ _ _ _ _ (by simp) rfl); exact cpu_sz _; rfl; exact cpu_one _; intro w1 b1 o1; have b0 := ((Blk.new w 26 zC.cells.toArray zC.cells rfl).alloc (.cells zC.cells.toArray 26)).only o1 (by omega); have lw := Below.only lw0 o1 (by omega); have e1 := b1.cell (j := 25) (v := .int .u32 0) rfl; have f1 := b1.frz 25; have e2 := b1.cell (j := 27) (v := .bool (id != 0)) rfl; have f2 := b1.frz 27; have hz1 : w1.heap.size = w.heap.size + 2 := by rw [o1.size]; simp)
    | ((with_reducible refine wpList_store_abs (o := ⟨none, .store 26 (.tmp 4) (.tmp 14), _, _, _, none⟩) rfl _ _ _ rfl w.heap.size 26 zC.cells (Cpu.start id x).cells ?_ ?_ ?_ ?_ ?_ ?_ ?_); rfl; rfl; exact (b0.set_other ⟨(w.heap.size + 1), 25, none⟩ (.int .u32 id) (by simp)); exact cpu_sz _; rfl; exact cpu_one _; intro w9 b9 o9))
  have hl : Later w w9 := Below.only (lw.setCell (p := ⟨w.heap.size + 1, 25, none⟩) (by simp) (.int .u32 id)) o9 (Nat.le_refl _)
  exact bodyPost_ret (cpu_ret Try.results12 _ _ w.heap.size (Cpu.start id x) rfl b9) rfl ⟨rfl, hl⟩
set_option maxRecDepth 100000 in
theorem rbegin_any (id x : Int) (w : World) (h : 0 ≤ id ∧ id < 4) : Calls Try.prog 13 #[.int .i64 id, .int .u32 x] w fun e w' => e = .returned (.agg (Cpu.start id x).cells.toArray) ∧ Later w w' := by
  have hw : IntKind.u32.wrap id = id := by rw [IntKind.wrap_u32]; omega
  have lw0 := (later1 w (.cells zC.cells.toArray 26)).alloc (by simp) (.cells zC.cells.toArray 26)
  go_enter Try.func13, Try.ntmps13
  go_wp2_with (first
    | ((with_reducible refine wpList_load_blk (o := ⟨some 15, .load 26 (.tmp 5), _, _, _, none⟩) rfl _ _ rfl (w.heap.size + 1) 26 (Cpu.start id x).cells _ ?_ ?_ Try.underlying26 rfl (cpu_sz _) ?_); rfl; exact ((b1.set 25 (.int .u32 id)).set 27 (.bool (id != 0))))
    | ((with_reducible refine wpList_store_abs (o := ⟨none, .store 26 (.tmp 5) (.tmp 7), _, _, _, none⟩) rfl _ _ _ rfl (w.heap.size + 1) 26 zC.cells ({ zC with pc := x } : Cpu).cells ?_ ?_ ?_ ?_ ?_ ?_ ?_); rfl; rfl; exact (Blk.new' _ _ _ _ _ (by simp) rfl); exact cpu_sz _; rfl; exact cpu_one _; intro w1 b1 o1; have b0 := ((Blk.new w 26 zC.cells.toArray zC.cells rfl).alloc (.cells zC.cells.toArray 26)).only o1 (by omega); have lw := Below.only lw0 o1 (by omega); have e1 := b1.cell (j := 25) (v := .int .u32 0) rfl; have f1 := b1.frz 25; have e2 := b1.cell (j := 27) (v := .bool false) rfl; have f2 := b1.frz 27; have hz1 : w1.heap.size = w.heap.size + 2 := by rw [o1.size]; simp)
    | ((with_reducible refine wpList_store_abs (o := ⟨none, .store 26 (.tmp 4) (.tmp 15), _, _, _, none⟩) rfl _ _ _ rfl w.heap.size 26 zC.cells (Cpu.start id x).cells ?_ ?_ ?_ ?_ ?_ ?_ ?_); rfl; rfl; exact ((b0.set_other ⟨(w.heap.size + 1), 25, none⟩ (.int .u32 id) (by simp)).set_other ⟨(w.heap.size + 1), 27, none⟩ (.bool (id != 0)) (by simp)); exact cpu_sz _; rfl; exact cpu_one _; intro w9 b9 o9))
  have hl : Later w w9 := Below.only ((lw.setCell (p := ⟨w.heap.size + 1, 25, none⟩) (by simp) (.int .u32 id)).setCell (p := ⟨w.heap.size + 1, 27, none⟩) (by simp) (.bool (id != 0))) o9 (Nat.le_refl _)
  exact bodyPost_ret (cpu_ret Try.results13 _ _ w.heap.size (Cpu.start id x) rfl b9) rfl ⟨rfl, hl⟩
theorem bit0 {y : Int} (h : Tm.isE y) : (bits .and .u32 y 1 == 1) = decide (y % 2 = 1) := by
  obtain ⟨q, rfl⟩ := Int.eq_ofNat_of_zero_le h.1
  have h2 := h.2
  have e := and_pow q 0 (by omega) (by omega)
  rw [Nat.pow_zero, Nat.div_one] at e
  rw [show (1 : Int) = ((1 : Nat) : Int) from rfl, e]
  by_cases hq : q % 2 = 1
  · rw [if_pos hq, decide_eq_true (by omega)]
    rfl
  · rw [if_neg hq, decide_eq_false (by omega)]
    rfl
theorem shr_e {x : Int} (k : Nat) (h : Tm.isE x) : Tm.isE (x / 2 ^ k) := by
  have hp : (0 : Int) < 2 ^ k := Int.pow_pos (by omega)
  have h0 := Int.ediv_nonneg h.1 (Int.le_of_lt hp)
  have h1 := Int.ediv_le_self (2 ^ k) h.1
  exact ⟨h0, by have := h.2; omega⟩
theorem rset_any (x M : Int) (k : Nat) (w : World) (hM : M = ((2 ^ k : Nat) : Int)) (hx : Tm.isE x) (hk : k < 5) : Calls Try.prog 32 #[.int .u32 x, .int .i64 (k : Int)] w fun e w' => e = .returned (.bool (Tm.has x M)) ∧ w = w' := by
  have hw : IntKind.u32.wrap (k : Int) = k := by rw [IntKind.wrap_u32]; omega
  have hb : (bits .and .u32 (x / 2 ^ k) 1 == 1) = Tm.has x M := by
    rw [bit0 (shr_e k hx), hM]
    unfold Tm.has
    rw [Int.natCast_pow]
    rfl
  clear hM
  go_enter Try.func32, Try.ntmps32
  go_wp2
  go_ret
  exact ⟨rfl, rfl⟩
end Go.Proofs.Ytkknobonpejgbaa
