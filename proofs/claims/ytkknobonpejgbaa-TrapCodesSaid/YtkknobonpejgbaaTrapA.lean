/-
  PROCESSORS: has, when, isControl, Valid; the reference's set, one, Valid.
-/
import Derived.Test.YtkknobonpejgbaaTabBits
import Derived.Test.YtkknobonpejgbaaTrapArgs
import Derived.Deep.DeepCutAuto
import Derived.DeepKeys
namespace Go.Proofs.Ytkknobonpejgbaa
open Go.RowKit Go.ChangeShapes Go.WideShapes Go.ChangeAt

theorem later1 (w : World) (o : Obj) : Later w (w.alloc o) := (Below.refl _ _).alloc (Nat.le_refl _) o
theorem later0 (w : World) : Later w w := Below.refl _ _
/-- A bit, or nothing. -/
def b32 (b : Bool) (n : Int) : Int := if b then n else 0
theorem when_any (b : Bool) (n : Int) (w : World) : Calls Try.prog 33 #[.bool b, .int .u32 n] w fun e w' => e = .returned (.int .u32 (b32 b n)) ∧ w = w' := by
  cases b
  all_goals
    go_enter Try.func33, Try.ntmps33
    go_wp2
    go_ret
    exact ⟨rfl, rfl⟩
theorem rone_any (b : Bool) (n : Int) (w : World) : Calls Try.prog 34 #[.bool b, .int .u32 n] w fun e w' => e = .returned (.int .u32 (b32 b n)) ∧ w = w' := by
  cases b
  all_goals
    go_enter Try.func34, Try.ntmps34
    go_wp2
    go_ret
    exact ⟨rfl, rfl⟩
theorem isControl_any (n : Int) (w : World) : Calls Try.prog 35 #[.int .i64 n] w fun e w' => e = .returned (.bool (decide (0 ≤ n ∧ n < 9))) ∧ w = w' := by
  by_cases h0 : 0 ≤ n
  · by_cases h1 : n < 9
    · rw [decide_eq_true ⟨h0, h1⟩]
      go_enter Try.func35, Try.ntmps35
      go_wp2
      go_ret
      exact ⟨rfl, rfl⟩
    · rw [decide_eq_false (by omega)]
      go_enter Try.func35, Try.ntmps35
      go_wp2
      go_ret
      exact ⟨rfl, rfl⟩
  · rw [decide_eq_false (by omega)]
    go_enter Try.func35, Try.ntmps35
    go_wp2
    go_ret
    exact ⟨rfl, rfl⟩
/-- A processor. -/
structure Cpu where
  (pc r0 r1 r2 r3 r4 r5 r6 r7 r8 r9 r10 r11 r12 r13 r14 r15 c0 c1 c2 c3 c4 c5 c6 c7 c8 : Int)
  (u wt hl : Bool)
  (cn : Int)
def Cpu.cells (x : Cpu) : List Value := [.int .u32 x.pc, .int .u32 x.r0, .int .u32 x.r1, .int .u32 x.r2, .int .u32 x.r3, .int .u32 x.r4, .int .u32 x.r5, .int .u32 x.r6, .int .u32 x.r7, .int .u32 x.r8, .int .u32 x.r9, .int .u32 x.r10, .int .u32 x.r11, .int .u32 x.r12, .int .u32 x.r13, .int .u32 x.r14, .int .u32 x.r15, .int .u32 x.c0, .int .u32 x.c1, .int .u32 x.c2, .int .u32 x.c3, .int .u32 x.c4, .int .u32 x.c5, .int .u32 x.c6, .int .u32 x.c7, .int .u32 x.c8, .bool x.u, .bool x.wt, .bool x.hl, .int .i64 x.cn]
theorem cpu_sz (x : Cpu) : (Try.prog.info? 26).map (·.size) = some x.cells.length := by
  show _ = some 30
  kernel_rfl
theorem cpu_one (x : Cpu) : ∀ v ∈ x.cells, v.oneCell' = true := by
  intro v hv
  simp only [Cpu.cells, List.mem_cons, List.not_mem_nil, or_false] at hv
  rcases hv with rfl | rfl | rfl | rfl | rfl | rfl | rfl | rfl | rfl | rfl | rfl | rfl | rfl | rfl | rfl | rfl | rfl | rfl | rfl | rfl | rfl | rfl | rfl | rfl | rfl | rfl | rfl | rfl | rfl | rfl <;> rfl
theorem has_any (x : Cpu) (M : Int) (w : World) : Calls Try.prog 31 #[.agg x.cells.toArray, .int .u32 M] w fun e w' => e = .returned (.bool (!(bits .and .u32 x.c5 M == 0))) ∧ Later w w' := by
  have k5 := (Blk.new w 26 x.cells.toArray x.cells rfl).cell (j := 22) (v := .int .u32 x.c5) rfl
  go_enter Try.func31, Try.ntmps31
  go_wp2
  go_ret
  exact ⟨rfl, later1 _ _⟩
/-- Whether a processor is valid. -/
def okC (r0 c5 c7 c8 : Int) (wt hl : Bool) (cn : Int) : Bool := decide (r0 = 0) && (decide (c5 ≤ 7) && (decide (c7 = 0) && (decide (c8 < 4) && (decide (0 ≤ cn) && (decide (cn ≤ 1099511627776) && !(wt && hl))))))
set_option maxRecDepth 100000 in
theorem valid_any (x : Cpu) (w : World) : Calls Try.prog 10 #[.agg x.cells.toArray] w fun e w' => e = .returned (.bool (okC x.r0 x.c5 x.c7 x.c8 x.wt x.hl x.cn)) ∧ Later w w' := by
  have hb := Blk.new w 26 x.cells.toArray x.cells rfl
  have kr0 := hb.cell (j := 1) (v := .int .u32 x.r0) rfl
  have kc5 := hb.cell (j := 22) (v := .int .u32 x.c5) rfl
  have kc7 := hb.cell (j := 24) (v := .int .u32 x.c7) rfl
  have kc8 := hb.cell (j := 25) (v := .int .u32 x.c8) rfl
  have kwt := hb.cell (j := 27) (v := .bool x.wt) rfl
  have khl := hb.cell (j := 28) (v := .bool x.hl) rfl
  have kcn := hb.cell (j := 29) (v := .int .i64 x.cn) rfl
  generalize x.r0 = r0 at kr0 ⊢
  generalize x.c5 = c5 at kc5 ⊢
  generalize x.c7 = c7 at kc7 ⊢
  generalize x.c8 = c8 at kc8 ⊢
  generalize x.wt = wt at kwt ⊢
  generalize x.hl = hl at khl ⊢
  generalize x.cn = cn at kcn ⊢
  clear hb
  by_cases h0 : r0 = 0
  · have d0 : (r0 == 0) = true := by simpa using h0
    by_cases h1 : c5 ≤ 7
    · have d1 : decide (c5 ≤ 7) = true := decide_eq_true (by omega)
      by_cases h2 : c7 = 0
      · have d2 : (c7 == 0) = true := by simpa using h2
        by_cases h3 : c8 < 4
        · have d3 : decide (c8 < 4) = true := decide_eq_true (by omega)
          by_cases h4 : 0 ≤ cn
          · have d4 : decide (0 ≤ cn) = true := decide_eq_true (by omega)
            by_cases h5 : cn ≤ 1099511627776
            · have d5 : decide (cn ≤ 1099511627776) = true := decide_eq_true (by omega)
              have e : okC r0 c5 c7 c8 wt hl cn = !(wt && hl) := by unfold okC; simp only [decide_eq_true h0, decide_eq_true h1, decide_eq_true h2, decide_eq_true h3, decide_eq_true h4, decide_eq_true h5, Bool.true_and]
              rw [e]
              clear e h0 h1 h2 h3 h4 h5
              cases wt
              · go_enter Try.func10, Try.ntmps10
                go_wp2
                go_ret
                exact ⟨rfl, later1 _ _⟩
              · cases hl
                · go_enter Try.func10, Try.ntmps10
                  go_wp2
                  go_ret
                  exact ⟨rfl, later1 _ _⟩
                · go_enter Try.func10, Try.ntmps10
                  go_wp2
                  go_ret
                  exact ⟨rfl, later1 _ _⟩
            · have d5 : decide (cn ≤ 1099511627776) = false := decide_eq_false (by omega)
              have e : okC r0 c5 c7 c8 wt hl cn = false := by unfold okC; simp only [decide_eq_false h5, Bool.false_and, Bool.and_false]
              rw [e]
              clear e
              go_enter Try.func10, Try.ntmps10
              go_wp2
              go_ret
              exact ⟨rfl, later1 _ _⟩
          · have d4 : decide (0 ≤ cn) = false := decide_eq_false (by omega)
            have e : okC r0 c5 c7 c8 wt hl cn = false := by unfold okC; simp only [decide_eq_false h4, Bool.false_and, Bool.and_false]
            rw [e]
            clear e
            go_enter Try.func10, Try.ntmps10
            go_wp2
            go_ret
            exact ⟨rfl, later1 _ _⟩
        · have d3 : decide (c8 < 4) = false := decide_eq_false (by omega)
          have e : okC r0 c5 c7 c8 wt hl cn = false := by unfold okC; simp only [decide_eq_false h3, Bool.false_and, Bool.and_false]
          rw [e]
          clear e
          go_enter Try.func10, Try.ntmps10
          go_wp2
          go_ret
          exact ⟨rfl, later1 _ _⟩
      · have d2 : (c7 == 0) = false := by simpa using h2
        have e : okC r0 c5 c7 c8 wt hl cn = false := by unfold okC; simp only [decide_eq_false h2, Bool.false_and, Bool.and_false]
        rw [e]
        clear e
        go_enter Try.func10, Try.ntmps10
        go_wp2
        go_ret
        exact ⟨rfl, later1 _ _⟩
    · have d1 : decide (c5 ≤ 7) = false := decide_eq_false (by omega)
      have e : okC r0 c5 c7 c8 wt hl cn = false := by unfold okC; simp only [decide_eq_false h1, Bool.false_and, Bool.and_false]
      rw [e]
      clear e
      go_enter Try.func10, Try.ntmps10
      go_wp2
      go_ret
      exact ⟨rfl, later1 _ _⟩
  · have d0 : (r0 == 0) = false := by simpa using h0
    have e : okC r0 c5 c7 c8 wt hl cn = false := by unfold okC; simp only [decide_eq_false h0, Bool.false_and]
    rw [e]
    clear e
    go_enter Try.func10, Try.ntmps10
    go_wp2
    go_ret
    exact ⟨rfl, later1 _ _⟩
set_option maxRecDepth 100000 in
theorem rvalid_any (x : Cpu) (w : World) : Calls Try.prog 11 #[.agg x.cells.toArray] w fun e w' => e = .returned (.bool (okC x.r0 x.c5 x.c7 x.c8 x.wt x.hl x.cn)) ∧ Later w w' := by
  have hb := Blk.new w 26 x.cells.toArray x.cells rfl
  have kr0 := hb.cell (j := 1) (v := .int .u32 x.r0) rfl
  have kc5 := hb.cell (j := 22) (v := .int .u32 x.c5) rfl
  have kc7 := hb.cell (j := 24) (v := .int .u32 x.c7) rfl
  have kc8 := hb.cell (j := 25) (v := .int .u32 x.c8) rfl
  have kwt := hb.cell (j := 27) (v := .bool x.wt) rfl
  have khl := hb.cell (j := 28) (v := .bool x.hl) rfl
  have kcn := hb.cell (j := 29) (v := .int .i64 x.cn) rfl
  generalize x.r0 = r0 at kr0 ⊢
  generalize x.c5 = c5 at kc5 ⊢
  generalize x.c7 = c7 at kc7 ⊢
  generalize x.c8 = c8 at kc8 ⊢
  generalize x.wt = wt at kwt ⊢
  generalize x.hl = hl at khl ⊢
  generalize x.cn = cn at kcn ⊢
  clear hb
  by_cases h0 : r0 = 0
  · have d0 : (r0 == 0) = true := by simpa using h0
    by_cases h1 : c5 ≤ 7
    · have d1 : decide (c5 ≤ 7) = true := decide_eq_true (by omega)
      by_cases h2 : c7 = 0
      · have d2 : (c7 == 0) = true := by simpa using h2
        by_cases h3 : c8 < 4
        · have d3 : decide (c8 ≤ 3) = true := decide_eq_true (by omega)
          by_cases h4 : 0 ≤ cn
          · have d4 : decide (0 ≤ cn) = true := decide_eq_true (by omega)
            by_cases h5 : cn ≤ 1099511627776
            · have d5 : decide (cn ≤ 1099511627776) = true := decide_eq_true (by omega)
              have e : okC r0 c5 c7 c8 wt hl cn = !(wt && hl) := by unfold okC; simp only [decide_eq_true h0, decide_eq_true h1, decide_eq_true h2, decide_eq_true h3, decide_eq_true h4, decide_eq_true h5, Bool.true_and]
              rw [e]
              clear e h0 h1 h2 h3 h4 h5
              cases wt
              · go_enter Try.func11, Try.ntmps11
                go_wp2
                go_ret
                exact ⟨rfl, later1 _ _⟩
              · cases hl
                · go_enter Try.func11, Try.ntmps11
                  go_wp2
                  go_ret
                  exact ⟨rfl, later1 _ _⟩
                · go_enter Try.func11, Try.ntmps11
                  go_wp2
                  go_ret
                  exact ⟨rfl, later1 _ _⟩
            · have d5 : decide (cn ≤ 1099511627776) = false := decide_eq_false (by omega)
              have e : okC r0 c5 c7 c8 wt hl cn = false := by unfold okC; simp only [decide_eq_false h5, Bool.false_and, Bool.and_false]
              rw [e]
              clear e
              go_enter Try.func11, Try.ntmps11
              go_wp2
              go_ret
              exact ⟨rfl, later1 _ _⟩
          · have d4 : decide (0 ≤ cn) = false := decide_eq_false (by omega)
            have e : okC r0 c5 c7 c8 wt hl cn = false := by unfold okC; simp only [decide_eq_false h4, Bool.false_and, Bool.and_false]
            rw [e]
            clear e
            go_enter Try.func11, Try.ntmps11
            go_wp2
            go_ret
            exact ⟨rfl, later1 _ _⟩
        · have d3 : decide (c8 ≤ 3) = false := decide_eq_false (by omega)
          have e : okC r0 c5 c7 c8 wt hl cn = false := by unfold okC; simp only [decide_eq_false h3, Bool.false_and, Bool.and_false]
          rw [e]
          clear e
          go_enter Try.func11, Try.ntmps11
          go_wp2
          go_ret
          exact ⟨rfl, later1 _ _⟩
      · have d2 : (c7 == 0) = false := by simpa using h2
        have e : okC r0 c5 c7 c8 wt hl cn = false := by unfold okC; simp only [decide_eq_false h2, Bool.false_and, Bool.and_false]
        rw [e]
        clear e
        go_enter Try.func11, Try.ntmps11
        go_wp2
        go_ret
        exact ⟨rfl, later1 _ _⟩
    · have d1 : decide (c5 ≤ 7) = false := decide_eq_false (by omega)
      have e : okC r0 c5 c7 c8 wt hl cn = false := by unfold okC; simp only [decide_eq_false h1, Bool.false_and, Bool.and_false]
      rw [e]
      clear e
      go_enter Try.func11, Try.ntmps11
      go_wp2
      go_ret
      exact ⟨rfl, later1 _ _⟩
  · have d0 : (r0 == 0) = false := by simpa using h0
    have e : okC r0 c5 c7 c8 wt hl cn = false := by unfold okC; simp only [decide_eq_false h0, Bool.false_and]
    rw [e]
    clear e
    go_enter Try.func11, Try.ntmps11
    go_wp2
    go_ret
    exact ⟨rfl, later1 _ _⟩
end Go.Proofs.Ytkknobonpejgbaa
