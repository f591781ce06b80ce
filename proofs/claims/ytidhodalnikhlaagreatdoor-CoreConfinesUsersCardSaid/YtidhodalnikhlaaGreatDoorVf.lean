/-
  A PROCESSOR AS AN ARGUMENT: its thirty cells.
-/
import Derived.Test.YtidhodalnikhlaaGreatDoorVe
import Derived.Test.YtidhodalnikhlaaGreatDoorVa
import Derived.Deep.DeepCutAuto
import Derived.DeepKeys
import Derived.Deep.RegionHeld
namespace Go.Proofs.YtidhodalnikhlaaGreatDoor
open Go.RowKit Go.ChangeShapes Go.WideShapes Go.ChangeAt

set_option maxRecDepth 100000 in
def w32 (l : List Int) : Prop := ∀ x ∈ l, 0 ≤ x ∧ x ≤ 4294967295
section
variable {H : Type} {enc : TypeId × Value → H} {P : Program} {W : World} {r : Reach} {b0 : Nat} {v : Value} {d : DataW H} {p : List MemPlace}
set_option maxRecDepth 100000 in
theorem cpu_cells {t tu tr tc tb ti : TypeId} {fs : Array Field} (ht : P.underlying t = some (.struct fs)) (hf : fs.toList.map (fun f => (f.type, f.offset)) = [(tu, 0), (tr, 1), (tc, 17), (tb, 26), (tb, 27), (tb, 28), (ti, 29)])
    (hu : P.underlying tu = some (.int .u32)) (hr : P.underlying tr = some (.array 16 tu)) (hc : P.underlying tc = some (.array 9 tu)) (hb : P.underlying tb = some .bool) (hi : P.underlying ti = some (.int .i64))
    (ku : P.cellsOf tu = 1) (kr : P.cellsOf tr = 16) (kc : P.cellsOf tc = 9) (kb : P.cellsOf tb = 1) (ki : P.cellsOf ti = 1) (kt : P.cellsOf t = 30)
    (hv : Value.okWide P W r b0 t v) (h : DataW.Trod enc P W 0 (fun _ => true) true t v d p) :
    ∃ l : List Value, v = .agg l.toArray ∧ l.length = 30 ∧ (∀ i, i < 26 → ∃ m : Int, l[i]? = some (.int .u32 m) ∧ 0 ≤ m ∧ m ≤ 4294967295) ∧ (∀ i, 26 ≤ i → i < 29 → ∃ b, l[i]? = some (.bool b)) ∧ ∃ n : Int, l[29]? = some (.int .i64 n) ∧ -9223372036854775808 ≤ n ∧ n ≤ 9223372036854775807 := by
  obtain ⟨cs, rfl, hsz⟩ := okWide_struct ht hv
  obtain ⟨fuel, hf'⟩ := h
  obtain ⟨xs, n, _, _, hl, hlen, hall⟩ := DataW.trod_struct ht hf'
  rw [kt] at hsz
  obtain ⟨l⟩ := cs
  have hn : fs.size = 7 := by simpa using congrArg List.length hf
  have hl30 : l.length = 30 := by simpa using hsz
  have fld : ∀ i, i < 7 → ∃ tt oo y, [(tu, 0), (tr, 1), (tc, 17), (tb, 26), (tb, 27), (tb, 28), (ti, 29)][i]? = some (tt, oo) ∧ DataW.trod enc P W 0 (fun _ => true) true n tt ((l.drop oo).take (P.cellsOf tt)) = some y := by
    intro i hi7
    have h1 : (fs.toList.map (fun f => (f.type, f.offset)))[i]? = some ((fs[i]'(by omega)).type, (fs[i]'(by omega)).offset) := by simp [hn, hi7]
    have h2 := hall i (fs[i]'(by omega)) (by simp [hn, hi7])
    obtain ⟨b, hb⟩ : ∃ b, xs[i]? = some b := ⟨xs[i]'(by omega), List.getElem?_eq_getElem (by omega)⟩
    rw [hb] at h2
    rw [hf] at h1
    exact ⟨_, _, b, h1, h2⟩
  have w1 : IntKind.u32.min = 0 := rfl
  have w2 : IntKind.u32.max = 4294967295 := rfl
  have w3 : IntKind.i64.min = -9223372036854775808 := rfl
  have w4 : IntKind.i64.max = 9223372036854775807 := rfl
  have at1 : ∀ (o : Nat) (x : Value), (l.drop o).take 1 = [x] → l[o]? = some x := by
    intro o x hx
    have := congrArg (·[0]?) hx
    simpa [List.getElem?_take, List.getElem?_drop] using this
  have arr : ∀ (o k : Nat) (ta : TypeId) y, P.underlying ta = some (.array k tu) → P.cellsOf ta = k → DataW.trod enc P W 0 (fun _ => true) true n ta ((l.drop o).take k) = some y → ∀ i, i < k → ∃ m : Int, l[o + i]? = some (.int .u32 m) ∧ 0 ≤ m ∧ m ≤ 4294967295 := by
    intro o k ta y hta hka hy i hik
    obtain ⟨ys, q, _, _, _, hyl, hya⟩ := DataW.trod_array hta hy
    have h2 := hya i hik
    obtain ⟨b, hb⟩ : ∃ b, ys[i]? = some b := ⟨ys[i]'(by omega), List.getElem?_eq_getElem (by omega)⟩
    rw [hb, ku, Nat.mul_one] at h2
    obtain ⟨z, hz, _, hw⟩ := DataW.trod_int hu h2
    have h3 : l[o + i]? = some (.int .u32 z) := by
      have := congrArg (·[0]?) hz
      simpa [List.getElem?_take, List.getElem?_drop, hik] using this
    simp only [Lit.wf, Bool.and_eq_true, decide_eq_true_eq] at hw
    exact ⟨z, h3, by omega, by omega⟩
  refine ⟨l, rfl, hl30, ?_, ?_, ?_⟩
  · intro i hi
    obtain ⟨t0, o0, y0, e0, f0⟩ := fld 0 (by omega)
    obtain ⟨t1, o1, y1, e1, f1⟩ := fld 1 (by omega)
    obtain ⟨t2, o2, y2, e2, f2⟩ := fld 2 (by omega)
    obtain ⟨rfl, rfl⟩ : tu = t0 ∧ 0 = o0 := by simpa using e0
    obtain ⟨rfl, rfl⟩ : tr = t1 ∧ 1 = o1 := by simpa using e1
    obtain ⟨rfl, rfl⟩ : tc = t2 ∧ 17 = o2 := by simpa using e2
    rw [ku] at f0
    rw [kr] at f1
    rw [kc] at f2
    by_cases h0 : i = 0
    · subst h0
      obtain ⟨z, hz, _, hw⟩ := DataW.trod_int hu f0
      simp only [Lit.wf, Bool.and_eq_true, decide_eq_true_eq] at hw
      exact ⟨z, at1 _ _ hz, by omega, by omega⟩
    · by_cases h1 : i < 17
      · have := arr 1 16 tr y1 hr kr f1 (i - 1) (by omega)
        rwa [show 1 + (i - 1) = i by omega] at this
      · have := arr 17 9 tc y2 hc kc f2 (i - 17) (by omega)
        rwa [show 17 + (i - 17) = i by omega] at this
  · intro i h26 h29
    obtain ⟨t3, o3, y3, e3, f3⟩ := fld 3 (by omega)
    obtain ⟨t4, o4, y4, e4, f4⟩ := fld 4 (by omega)
    obtain ⟨t5, o5, y5, e5, f5⟩ := fld 5 (by omega)
    obtain ⟨rfl, rfl⟩ : tb = t3 ∧ 26 = o3 := by simpa using e3
    obtain ⟨rfl, rfl⟩ : tb = t4 ∧ 27 = o4 := by simpa using e4
    obtain ⟨rfl, rfl⟩ : tb = t5 ∧ 28 = o5 := by simpa using e5
    rw [kb] at f3 f4 f5
    rcases (show i = 26 ∨ i = 27 ∨ i = 28 by omega) with rfl | rfl | rfl
    · obtain ⟨z, hz, _⟩ := DataW.trod_bool hb f3
      exact ⟨z, at1 _ _ hz⟩
    · obtain ⟨z, hz, _⟩ := DataW.trod_bool hb f4
      exact ⟨z, at1 _ _ hz⟩
    · obtain ⟨z, hz, _⟩ := DataW.trod_bool hb f5
      exact ⟨z, at1 _ _ hz⟩
  · obtain ⟨t6, o6, y6, e6, f6⟩ := fld 6 (by omega)
    obtain ⟨rfl, rfl⟩ : ti = t6 ∧ 29 = o6 := by simpa using e6
    rw [ki] at f6
    obtain ⟨z, hz, _, hw⟩ := DataW.trod_int hi f6
    simp only [Lit.wf, Bool.and_eq_true, decide_eq_true_eq] at hw
    exact ⟨z, at1 _ _ hz, by omega, by omega⟩
set_option maxRecDepth 100000 in
/-- A processor: its thirty cells. -/
theorem cpu_arg {t tu tr tc tb ti : TypeId} {fs : Array Field} (ht : P.underlying t = some (.struct fs)) (hf : fs.toList.map (fun f => (f.type, f.offset)) = [(tu, 0), (tr, 1), (tc, 17), (tb, 26), (tb, 27), (tb, 28), (ti, 29)])
    (hu : P.underlying tu = some (.int .u32)) (hr : P.underlying tr = some (.array 16 tu)) (hc : P.underlying tc = some (.array 9 tu)) (hb : P.underlying tb = some .bool) (hi : P.underlying ti = some (.int .i64))
    (ku : P.cellsOf tu = 1) (kr : P.cellsOf tr = 16) (kc : P.cellsOf tc = 9) (kb : P.cellsOf tb = 1) (ki : P.cellsOf ti = 1) (kt : P.cellsOf t = 30)
    (hv : Value.okWide P W r b0 t v) (h : DataW.Trod enc P W 0 (fun _ => true) true t v d p) :
    ∃ (pc r0 r1 r2 r3 r4 r5 r6 r7 r8 r9 r10 r11 r12 r13 r14 r15 c0 c1 c2 c3 c4 c5 c6 c7 c8 : Int) (u wt hl : Bool) (cn : Int), v = .agg #[.int .u32 pc, .int .u32 r0, .int .u32 r1, .int .u32 r2, .int .u32 r3, .int .u32 r4, .int .u32 r5, .int .u32 r6, .int .u32 r7, .int .u32 r8, .int .u32 r9, .int .u32 r10, .int .u32 r11, .int .u32 r12, .int .u32 r13, .int .u32 r14, .int .u32 r15, .int .u32 c0, .int .u32 c1, .int .u32 c2, .int .u32 c3, .int .u32 c4, .int .u32 c5, .int .u32 c6, .int .u32 c7, .int .u32 c8, .bool u, .bool wt, .bool hl, .int .i64 cn] ∧ w32 [pc, r0, r1, r2, r3, r4, r5, r6, r7, r8, r9, r10, r11, r12, r13, r14, r15, c0, c1, c2, c3, c4, c5, c6, c7, c8] ∧ -9223372036854775808 ≤ cn ∧ cn ≤ 9223372036854775807 := by
  obtain ⟨l, rfl, hl, h1, h2, n, h3, h4, h5⟩ := cpu_cells ht hf hu hr hc hb hi ku kr kc kb ki kt hv h
  obtain ⟨pc, e0, b0⟩ := h1 0 (by omega)
  obtain ⟨r0, e1, b1⟩ := h1 1 (by omega)
  obtain ⟨r1, e2, b2⟩ := h1 2 (by omega)
  obtain ⟨r2, e3, b3⟩ := h1 3 (by omega)
  obtain ⟨r3, e4, b4⟩ := h1 4 (by omega)
  obtain ⟨r4, e5, b5⟩ := h1 5 (by omega)
  obtain ⟨r5, e6, b6⟩ := h1 6 (by omega)
  obtain ⟨r6, e7, b7⟩ := h1 7 (by omega)
  obtain ⟨r7, e8, b8⟩ := h1 8 (by omega)
  obtain ⟨r8, e9, b9⟩ := h1 9 (by omega)
  obtain ⟨r9, e10, b10⟩ := h1 10 (by omega)
  obtain ⟨r10, e11, b11⟩ := h1 11 (by omega)
  obtain ⟨r11, e12, b12⟩ := h1 12 (by omega)
  obtain ⟨r12, e13, b13⟩ := h1 13 (by omega)
  obtain ⟨r13, e14, b14⟩ := h1 14 (by omega)
  obtain ⟨r14, e15, b15⟩ := h1 15 (by omega)
  obtain ⟨r15, e16, b16⟩ := h1 16 (by omega)
  obtain ⟨c0, e17, b17⟩ := h1 17 (by omega)
  obtain ⟨c1, e18, b18⟩ := h1 18 (by omega)
  obtain ⟨c2, e19, b19⟩ := h1 19 (by omega)
  obtain ⟨c3, e20, b20⟩ := h1 20 (by omega)
  obtain ⟨c4, e21, b21⟩ := h1 21 (by omega)
  obtain ⟨c5, e22, b22⟩ := h1 22 (by omega)
  obtain ⟨c6, e23, b23⟩ := h1 23 (by omega)
  obtain ⟨c7, e24, b24⟩ := h1 24 (by omega)
  obtain ⟨c8, e25, b25⟩ := h1 25 (by omega)
  obtain ⟨u, e26⟩ := h2 26 (by omega) (by omega)
  obtain ⟨wt, e27⟩ := h2 27 (by omega) (by omega)
  obtain ⟨hl, e28⟩ := h2 28 (by omega) (by omega)
  refine ⟨pc, r0, r1, r2, r3, r4, r5, r6, r7, r8, r9, r10, r11, r12, r13, r14, r15, c0, c1, c2, c3, c4, c5, c6, c7, c8, u, wt, hl, n, ?_, ?_, h4, h5⟩
  · have hg : l = [.int .u32 pc, .int .u32 r0, .int .u32 r1, .int .u32 r2, .int .u32 r3, .int .u32 r4, .int .u32 r5, .int .u32 r6, .int .u32 r7, .int .u32 r8, .int .u32 r9, .int .u32 r10, .int .u32 r11, .int .u32 r12, .int .u32 r13, .int .u32 r14, .int .u32 r15, .int .u32 c0, .int .u32 c1, .int .u32 c2, .int .u32 c3, .int .u32 c4, .int .u32 c5, .int .u32 c6, .int .u32 c7, .int .u32 c8, .bool u, .bool wt, .bool hl, .int .i64 n] := by
      apply List.ext_getElem?
      intro i
      by_cases hi30 : i < 30
      · rcases (show i = 0 ∨ i = 1 ∨ i = 2 ∨ i = 3 ∨ i = 4 ∨ i = 5 ∨ i = 6 ∨ i = 7 ∨ i = 8 ∨ i = 9 ∨ i = 10 ∨ i = 11 ∨ i = 12 ∨ i = 13 ∨ i = 14 ∨ i = 15 ∨ i = 16 ∨ i = 17 ∨ i = 18 ∨ i = 19 ∨ i = 20 ∨ i = 21 ∨ i = 22 ∨ i = 23 ∨ i = 24 ∨ i = 25 ∨ i = 26 ∨ i = 27 ∨ i = 28 ∨ i = 29 by omega) with rfl | rfl | rfl | rfl | rfl | rfl | rfl | rfl | rfl | rfl | rfl | rfl | rfl | rfl | rfl | rfl | rfl | rfl | rfl | rfl | rfl | rfl | rfl | rfl | rfl | rfl | rfl | rfl | rfl | rfl
        · exact e0
        · exact e1
        · exact e2
        · exact e3
        · exact e4
        · exact e5
        · exact e6
        · exact e7
        · exact e8
        · exact e9
        · exact e10
        · exact e11
        · exact e12
        · exact e13
        · exact e14
        · exact e15
        · exact e16
        · exact e17
        · exact e18
        · exact e19
        · exact e20
        · exact e21
        · exact e22
        · exact e23
        · exact e24
        · exact e25
        · exact e26
        · exact e27
        · exact e28
        · exact h3
      · rw [List.getElem?_eq_none (by omega), List.getElem?_eq_none (by simp only [List.length_cons, List.length_nil]; omega)]
    rw [hg]
  · intro x hx
    simp only [List.mem_cons, List.not_mem_nil, or_false] at hx
    rcases hx with rfl | rfl | rfl | rfl | rfl | rfl | rfl | rfl | rfl | rfl | rfl | rfl | rfl | rfl | rfl | rfl | rfl | rfl | rfl | rfl | rfl | rfl | rfl | rfl | rfl | rfl <;> assumption
end
end Go.Proofs.YtidhodalnikhlaaGreatDoor

/-
  PROCESSORS: has, when, isControl, Valid; the reference's set, one, Valid.
-/
namespace Go.Proofs.YtidhodalnikhlaaGreatDoor
open Go.RowKit Go.ChangeShapes Go.WideShapes Go.ChangeAt

set_option maxRecDepth 100000 in
/-- A bit, or nothing. -/
def b32 (b : Bool) (n : Int) : Int := if b then n else 0
set_option maxRecDepth 100000 in
theorem when_any (b : Bool) (n : Int) (w : World) : Calls Tryz.prog 89 #[.bool b, .int .u32 n] w fun e w' => e = .returned (.int .u32 (b32 b n)) ∧ w = w' := by
  cases b
  all_goals
    go_enter Tryz.func89, Tryz.ntmps89
    go_wp2
    go_ret
    exact ⟨rfl, rfl⟩
set_option maxRecDepth 100000 in
theorem isControl_any (n : Int) (w : World) : Calls Tryz.prog 183 #[.int .i64 n] w fun e w' => e = .returned (.bool (decide (0 ≤ n ∧ n < 9))) ∧ w = w' := by
  by_cases h0 : 0 ≤ n
  · by_cases h1 : n < 9
    · rw [decide_eq_true ⟨h0, h1⟩]
      go_enter Tryz.func183, Tryz.ntmps183
      go_wp2
      go_ret
      exact ⟨rfl, rfl⟩
    · rw [decide_eq_false (by omega)]
      go_enter Tryz.func183, Tryz.ntmps183
      go_wp2
      go_ret
      exact ⟨rfl, rfl⟩
  · rw [decide_eq_false (by omega)]
    go_enter Tryz.func183, Tryz.ntmps183
    go_wp2
    go_ret
    exact ⟨rfl, rfl⟩
set_option maxRecDepth 100000 in
/-- A processor. -/
structure Cpu where
  (pc r0 r1 r2 r3 r4 r5 r6 r7 r8 r9 r10 r11 r12 r13 r14 r15 c0 c1 c2 c3 c4 c5 c6 c7 c8 : Int)
  (u wt hl : Bool)
  (cn : Int)
set_option maxRecDepth 100000 in
def Cpu.cells (x : Cpu) : List Value := [.int .u32 x.pc, .int .u32 x.r0, .int .u32 x.r1, .int .u32 x.r2, .int .u32 x.r3, .int .u32 x.r4, .int .u32 x.r5, .int .u32 x.r6, .int .u32 x.r7, .int .u32 x.r8, .int .u32 x.r9, .int .u32 x.r10, .int .u32 x.r11, .int .u32 x.r12, .int .u32 x.r13, .int .u32 x.r14, .int .u32 x.r15, .int .u32 x.c0, .int .u32 x.c1, .int .u32 x.c2, .int .u32 x.c3, .int .u32 x.c4, .int .u32 x.c5, .int .u32 x.c6, .int .u32 x.c7, .int .u32 x.c8, .bool x.u, .bool x.wt, .bool x.hl, .int .i64 x.cn]
set_option maxRecDepth 100000 in
theorem cpu_sz (x : Cpu) : (Tryz.prog.info? 26).map (·.size) = some x.cells.length := by
  show _ = some 30
  kernel_rfl
set_option maxRecDepth 100000 in
theorem cpu_one (x : Cpu) : ∀ v ∈ x.cells, v.oneCell' = true := by
  intro v hv
  simp only [Cpu.cells, List.mem_cons, List.not_mem_nil, or_false] at hv
  rcases hv with rfl | rfl | rfl | rfl | rfl | rfl | rfl | rfl | rfl | rfl | rfl | rfl | rfl | rfl | rfl | rfl | rfl | rfl | rfl | rfl | rfl | rfl | rfl | rfl | rfl | rfl | rfl | rfl | rfl | rfl <;> rfl
set_option maxRecDepth 100000 in
theorem has_any_T (x : Cpu) (M : Int) (w : World) : Calls Tryz.prog 90 #[.agg x.cells.toArray, .int .u32 M] w fun e w' => e = .returned (.bool (!(bits .and .u32 x.c5 M == 0))) ∧ Later w w' := by
  have k5 := (Blk.new w 26 x.cells.toArray x.cells rfl).cell (j := 22) (v := .int .u32 x.c5) rfl
  go_enter Tryz.func90, Tryz.ntmps90
  go_wp2
  go_ret
  exact ⟨rfl, later1 _ _⟩
set_option maxRecDepth 100000 in
/-- Whether a processor is valid. -/
def okC (r0 c5 c7 c8 : Int) (wt hl : Bool) (cn : Int) : Bool := decide (r0 = 0) && (decide (c5 ≤ 7) && (decide (c7 = 0) && (decide (c8 < 4) && (decide (0 ≤ cn) && (decide (cn ≤ 1099511627776) && !(wt && hl))))))
set_option maxRecDepth 100000 in
theorem rvalid_any_T (x : Cpu) (w : World) : Calls Tryz.prog 29 #[.agg x.cells.toArray] w fun e w' => e = .returned (.bool (okC x.r0 x.c5 x.c7 x.c8 x.wt x.hl x.cn)) ∧ Later w w' := by
  have hb := Blk.new w 26 x.cells.toArray x.cells rfl
  have kr0 := hb.cell (j := 1) (v := .int .u32 x.r0) rfl
  have kc5 := hb.cell (j := 22) (v := .int .u32 x.c5) rfl
  have kc7 := hb.cell (j := 24) (v := .int .u32 x.c7) rfl
  have kc8 := hb.cell (j := 25) (v := .int .u32 x.c8) rfl
  have kwt := hb.cell (j := 27) (v := .bool x.wt) rfl
  have khl := hb.cell (j := 28) (v := .bool x.hl) rfl
  have kcn := hb.cell (j := 29) (v := .int .i64 x.cn) rfl
  generalize x.r0 = r0 at kr0 ⊢
  generalize x.c5 = c5 at kc5 ⊢
  generalize x.c7 = c7 at kc7 ⊢
  generalize x.c8 = c8 at kc8 ⊢
  generalize x.wt = wt at kwt ⊢
  generalize x.hl = hl at khl ⊢
  generalize x.cn = cn at kcn ⊢
  clear hb
  by_cases h0 : r0 = 0
  · have d0 : (r0 == 0) = true := by simpa using h0
    by_cases h1 : c5 ≤ 7
    · have d1 : decide (c5 ≤ 7) = true := decide_eq_true (by omega)
      by_cases h2 : c7 = 0
      · have d2 : (c7 == 0) = true := by simpa using h2
        by_cases h3 : c8 < 4
        · have d3 : decide (c8 ≤ 3) = true := decide_eq_true (by omega)
          by_cases h4 : 0 ≤ cn
          · have d4 : decide (0 ≤ cn) = true := decide_eq_true (by omega)
            by_cases h5 : cn ≤ 1099511627776
            · have d5 : decide (cn ≤ 1099511627776) = true := decide_eq_true (by omega)
              have e : okC r0 c5 c7 c8 wt hl cn = !(wt && hl) := by unfold okC; simp only [decide_eq_true h0, decide_eq_true h1, decide_eq_true h2, decide_eq_true h3, decide_eq_true h4, decide_eq_true h5, Bool.true_and]
              rw [e]
              clear e h0 h1 h2 h3 h4 h5
              cases wt
              · go_enter Tryz.func29, Tryz.ntmps29
                go_wp2
                go_ret
                exact ⟨rfl, later1 _ _⟩
              · cases hl
                · go_enter Tryz.func29, Tryz.ntmps29
                  go_wp2
                  go_ret
                  exact ⟨rfl, later1 _ _⟩
                · go_enter Tryz.func29, Tryz.ntmps29
                  go_wp2
                  go_ret
                  exact ⟨rfl, later1 _ _⟩
            · have d5 : decide (cn ≤ 1099511627776) = false := decide_eq_false (by omega)
              have e : okC r0 c5 c7 c8 wt hl cn = false := by unfold okC; simp only [decide_eq_false h5, Bool.false_and, Bool.and_false]
              rw [e]
              clear e
              go_enter Tryz.func29, Tryz.ntmps29
              go_wp2
              go_ret
              exact ⟨rfl, later1 _ _⟩
          · have d4 : decide (0 ≤ cn) = false := decide_eq_false (by omega)
            have e : okC r0 c5 c7 c8 wt hl cn = false := by unfold okC; simp only [decide_eq_false h4, Bool.false_and, Bool.and_false]
            rw [e]
            clear e
            go_enter Tryz.func29, Tryz.ntmps29
            go_wp2
            go_ret
            exact ⟨rfl, later1 _ _⟩
        · have d3 : decide (c8 ≤ 3) = false := decide_eq_false (by omega)
          have e : okC r0 c5 c7 c8 wt hl cn = false := by unfold okC; simp only [decide_eq_false h3, Bool.false_and, Bool.and_false]
          rw [e]
          clear e
          go_enter Tryz.func29, Tryz.ntmps29
          go_wp2
          go_ret
          exact ⟨rfl, later1 _ _⟩
      · have d2 : (c7 == 0) = false := by simpa using h2
        have e : okC r0 c5 c7 c8 wt hl cn = false := by unfold okC; simp only [decide_eq_false h2, Bool.false_and, Bool.and_false]
        rw [e]
        clear e
        go_enter Tryz.func29, Tryz.ntmps29
        go_wp2
        go_ret
        exact ⟨rfl, later1 _ _⟩
    · have d1 : decide (c5 ≤ 7) = false := decide_eq_false (by omega)
      have e : okC r0 c5 c7 c8 wt hl cn = false := by unfold okC; simp only [decide_eq_false h1, Bool.false_and, Bool.and_false]
      rw [e]
      clear e
      go_enter Tryz.func29, Tryz.ntmps29
      go_wp2
      go_ret
      exact ⟨rfl, later1 _ _⟩
  · have d0 : (r0 == 0) = false := by simpa using h0
    have e : okC r0 c5 c7 c8 wt hl cn = false := by unfold okC; simp only [decide_eq_false h0, Bool.false_and]
    rw [e]
    clear e
    go_enter Tryz.func29, Tryz.ntmps29
    go_wp2
    go_ret
    exact ⟨rfl, later1 _ _⟩
end Go.Proofs.YtidhodalnikhlaaGreatDoor

/-
  PROCESSORS: Begin, the reference's Begin and set.
-/
namespace Go.Proofs.YtidhodalnikhlaaGreatDoor
open Go.RowKit Go.ChangeShapes Go.WideShapes Go.ChangeAt

set_option maxRecDepth 100000 in
def zC : Cpu := ⟨0, 0, 0, 0, 0, 0, 0, 0, 0, 0, 0, 0, 0, 0, 0, 0, 0, 0, 0, 0, 0, 0, 0, 0, 0, 0, false, false, false, 0⟩
set_option maxRecDepth 100000 in
/-- A processor as it is at the beginning. -/
def Cpu.start (id x : Int) : Cpu := { zC with pc := x, c8 := id, wt := id != 0 }
set_option maxRecDepth 100000 in
theorem cpu_ret {fn : Func} {p : Tmp} (h : fn.results = #[.cell p 26]) (tmps : Array Value) (w : World) (B : Nat) (x : Cpu) (hp : tmps.getD p undef = .pointer (some ⟨B, 0, none⟩)) (hb : Blk w B 26 x.cells) : (results fn tmps).run Tryz.prog w = .ok (.agg x.cells.toArray) w :=
  results_blk h tmps w B 26 x.cells _ hp hb Tryz.underlying26 rfl (cpu_sz _)
set_option maxRecDepth 100000 in
theorem rbegin_any (id x : Int) (w : World) (h : 0 ≤ id ∧ id < 4) : Calls Tryz.prog 31 #[.int .i64 id, .int .u32 x] w fun e w' => e = .returned (.agg (Cpu.start id x).cells.toArray) ∧ Later w w' := by
  have hw : IntKind.u32.wrap id = id := by rw [IntKind.wrap_u32]; omega
  have lw0 := (later1 w (.cells zC.cells.toArray 26)).alloc (by simp) (.cells zC.cells.toArray 26)
  go_enter Tryz.func31, Tryz.ntmps31
  go_wp2_with (first
    | ((with_reducible refine wpList_load_blk (o := ⟨some 15, .load 26 (.tmp 5), _, _, _, none⟩) rfl _ _ rfl (w.heap.size + 1) 26 (Cpu.start id x).cells _ ?_ ?_ Tryz.underlying26 rfl (cpu_sz _) ?_); rfl; exact ((b1.set 25 (.int .u32 id)).set 27 (.bool (id != 0))))
    | ((with_reducible refine wpList_store_abs (o := ⟨none, .store 26 (.tmp 5) (.tmp 7), _, _, _, none⟩) rfl _ _ _ rfl (w.heap.size + 1) 26 zC.cells ({ zC with pc := x } : Cpu).cells ?_ ?_ ?_ ?_ ?_ ?_ ?_); rfl; rfl; exact (Blk.new' _ _ _ _ _ (by simp) rfl); exact cpu_sz _; rfl; exact cpu_one _; intro w1 b1 o1; have b0 := ((Blk.new w 26 zC.cells.toArray zC.cells rfl).alloc (.cells zC.cells.toArray 26)).only o1 (by omega); have lw := Below.only lw0 o1 (by omega); have e1 := b1.cell (j := 25) (v := .int .u32 0) rfl; have f1 := b1.frz 25; have e2 := b1.cell (j := 27) (v := .bool false) rfl; have f2 := b1.frz 27; have hz1 : w1.heap.size = w.heap.size + 2 := by rw [o1.size]; simp)
    | ((with_reducible refine wpList_store_abs (o := ⟨none, .store 26 (.tmp 4) (.tmp 15), _, _, _, none⟩) rfl _ _ _ rfl w.heap.size 26 zC.cells (Cpu.start id x).cells ?_ ?_ ?_ ?_ ?_ ?_ ?_); rfl; rfl; exact ((b0.set_other ⟨(w.heap.size + 1), 25, none⟩ (.int .u32 id) (by simp)).set_other ⟨(w.heap.size + 1), 27, none⟩ (.bool (id != 0)) (by simp)); exact cpu_sz _; rfl; exact cpu_one _; intro w9 b9 o9))
  have hl : Later w w9 := Below.only ((lw.setCell (p := ⟨w.heap.size + 1, 25, none⟩) (by simp) (.int .u32 id)).setCell (p := ⟨w.heap.size + 1, 27, none⟩) (by simp) (.bool (id != 0))) o9 (Nat.le_refl _)
  exact bodyPost_ret (cpu_ret Tryz.results31 _ _ w.heap.size (Cpu.start id x) rfl b9) rfl ⟨rfl, hl⟩
set_option maxRecDepth 100000 in
theorem bit0 {y : Int} (h : Tm.isE y) : (bits .and .u32 y 1 == 1) = decide (y % 2 = 1) := by
  obtain ⟨q, rfl⟩ := Int.eq_ofNat_of_zero_le h.1
  have h2 := h.2
  have e := and_pow q 0 (by omega) (by omega)
  rw [Nat.pow_zero, Nat.div_one] at e
  rw [show (1 : Int) = ((1 : Nat) : Int) from rfl, e]
  by_cases hq : q % 2 = 1
  · rw [if_pos hq, decide_eq_true (by omega)]
    rfl
  · rw [if_neg hq, decide_eq_false (by omega)]
    rfl
set_option maxRecDepth 100000 in
theorem shr_e {x : Int} (k : Nat) (h : Tm.isE x) : Tm.isE (x / 2 ^ k) := by
  have hp : (0 : Int) < 2 ^ k := Int.pow_pos (by omega)
  have h0 := Int.ediv_nonneg h.1 (Int.le_of_lt hp)
  have h1 := Int.ediv_le_self (2 ^ k) h.1
  exact ⟨h0, by have := h.2; omega⟩
end Go.Proofs.YtidhodalnikhlaaGreatDoor

/-
  PROCESSORS: Enter, Return, and the reference's.
-/
namespace Go.Proofs.YtidhodalnikhlaaGreatDoor
open Go.RowKit Go.ChangeShapes Go.WideShapes Go.ChangeAt

set_option maxRecDepth 100000 in
theorem wp_load_blk {P : Program} {o : Oper} {a : Act} {w : World} {K : Act → World → Prop} {Q : Exit → Act → World → Prop} (ty : TypeId) (x : Operand) (ho : o.op = .load ty x)
    (g : Nat) (t : TypeId) (cs : List Value) (d : TypeDesc) (hx : a.eval x = .pointer (some ⟨g, 0, none⟩)) (hg : Blk w g t cs)
    (hu : P.underlying ty = some d) (hd : (match d with | .struct _ | .array _ _ => true | _ => false) = true) (hi : (P.info? ty).map (·.size) = some cs.length)
    (h : K (a.put o.dst (.agg cs.toArray)) w) : o.wp P a w K Q :=
  wp_load_row ty x ho g hx t cs.toArray (0, 0) d hg hu hd (by rw [List.size_toArray]; exact hi) h
set_option maxRecDepth 100000 in
/-- A processor after a trap. -/
def Cpu.enter (x : Cpu) (ca va ep : Int) : Cpu := { x with c5 := b32 (Tm.has x.c5 1) 2 + b32 x.u 4, c3 := ca, c4 := va, c2 := ep, pc := x.c1, u := false, wt := false }
set_option maxRecDepth 100000 in
/-- A processor after a trap has been left. -/
def Cpu.back (x : Cpu) : Cpu := { x with pc := x.c2, u := Tm.has x.c5 4, c5 := b32 (Tm.has x.c5 2) 1 + 2 }
set_option maxRecDepth 100000 in
theorem or_24 (s t : Bool) : bits .or .u32 (b32 s 2) (b32 t 4) = b32 s 2 + b32 t 4 := by cases s <;> cases t <;> decide +kernel
set_option maxRecDepth 100000 in
theorem or_12 (s : Bool) : bits .or .u32 (b32 s 1) 2 = b32 s 1 + 2 := by cases s <;> decide +kernel
set_option maxRecDepth 100000 in
theorem has_bit (x : Cpu) (k : Nat) (M : Int) (hM : M = ((2 ^ k : Nat) : Int)) (hk : k < 32) (h : Tm.isE x.c5) (w : World) : Calls Tryz.prog 90 #[.agg x.cells.toArray, .int .u32 M] w fun e w' => e = .returned (.bool (Tm.has x.c5 M)) ∧ Later w w' := by
  rw [← has_bits h k M hM hk]
  exact has_any_T x M w
set_option maxRecDepth 100000 in
set_option maxHeartbeats 1000000 in
theorem enter_any (x : Cpu) (ca va ep : Int) (w : World) (h : Tm.isE x.c5) : Calls Tryz.prog 47 #[.agg x.cells.toArray, .int .u32 ca, .int .u32 va, .int .u32 ep] w fun e w' => e = .returned (.agg (Cpu.enter x ca va ep).cells.toArray) ∧ Later w w' := by
  have HH := Lib.hid fun w' => has_bit x 0 1 rfl (by omega) h w'
  clear h
  have b4 := (Blk.new w 26 x.cells.toArray x.cells rfl).alloc (.cells zC.cells.toArray 26)
  have b8 := Blk.new' (w.alloc (.cells x.cells.toArray 26)) (w.heap.size + 1) 26 zC.cells.toArray zC.cells (by simp) rfl
  have lw := (later1 w (.cells x.cells.toArray 26)).alloc (by simp) (.cells zC.cells.toArray 26)
  obtain ⟨s, hs⟩ : ∃ s, s = Tm.has x.c5 1 := ⟨_, rfl⟩
  have hx : (Cpu.enter x ca va ep) = ({ x with c5 := (b32 s 2 + b32 x.u 4), c3 := ca, c4 := va, c2 := ep, pc := x.c1, u := false, wt := false } : Cpu) := by rw [hs]; rfl
  rw [hx]
  rw [← hs] at HH
  clear hs hx
  have HW1 := Lib.hid fun w' => when_any s 2 w'
  have HW2 := Lib.hid fun w' => when_any x.u 4 w'
  have hor := or_24 s x.u
  go_enter Tryz.func47, Tryz.ntmps47
  go_wp2
  obtain ⟨u0, hu⟩ : ∃ u0, (w.alloc (.cells x.cells.toArray 26)).alloc (.cells zC.cells.toArray 26) = u0 := ⟨_, rfl⟩
  rw [hu] at b4 b8 lw
  have hu2 : (w.alloc (.cells x.cells.toArray 26)).alloc (.cells #[.int .u32 0, .int .u32 0, .int .u32 0, .int .u32 0, .int .u32 0, .int .u32 0, .int .u32 0, .int .u32 0, .int .u32 0, .int .u32 0, .int .u32 0, .int .u32 0, .int .u32 0, .int .u32 0, .int .u32 0, .int .u32 0, .int .u32 0, .int .u32 0, .int .u32 0, .int .u32 0, .int .u32 0, .int .u32 0, .int .u32 0, .int .u32 0, .int .u32 0, .int .u32 0, .bool false, .bool false, .bool false, .int .i64 0] 26) = u0 := hu
  rw [hu2]
  clear hu hu2
  replace b4 := b4.drew
  replace b8 := b8.drew
  replace lw := lw.drew
  refine wp_region_held_drew (S := fun w' => w'.cell? ⟨w.heap.size, 26, none⟩ = some (.bool x.u)) (by kernel_rfl) (b4.cell (j := 26) (v := .bool x.u) rfl) (fun hHeld => ?_)
  refine wpAnyH_take (i := 3) (oi := ⟨some 12, .fieldAddr 26 (.tmp 4) 3, _, _, _, none⟩) (v := .pointer (some ⟨w.heap.size, 26, none⟩)) rfl (by kernel_rfl) (by kernel_rfl) (by kernel_rfl) (fun _ _ _ h => h) (Or.inl ⟨by rfl, fun w _ => by go_simp⟩) hHeld ?_
  simp only [Act.put, List.setIfInBounds_toArray, List.set_cons_zero, List.set_cons_succ]
  refine wpAnyH_take (i := 4) (oi := ⟨some 13, .load 4 (.tmp 12), _, _, _, none⟩) (v := .bool x.u) rfl (by kernel_rfl) (by kernel_rfl) (by kernel_rfl) (fun _ _ _ h => h) (Or.inl ⟨by rfl, fun w hSw => by have e1 := hSw; clear hSw; go_simp⟩) hHeld ?_
  simp only [Act.put, List.setIfInBounds_toArray, List.set_cons_zero, List.set_cons_succ]
  refine wpAnyH_take (i := 7) (oi := ⟨some 16, .fieldAddr 26 (.tmp 4) 2, _, _, _, none⟩) (v := .pointer (some ⟨w.heap.size, 17, none⟩)) rfl (by kernel_rfl) (by kernel_rfl) (by kernel_rfl) (fun _ _ _ h => h) (Or.inl ⟨by rfl, fun w _ => by go_simp⟩) hHeld ?_
  simp only [Act.put, List.setIfInBounds_toArray, List.set_cons_zero, List.set_cons_succ]
  refine wpAnyH_ready (rs := [0]) (by kernel_rfl) (by simp) (AllReadyH.cons (o := ⟨some 9, .load 26 (.tmp 4), _, _, _, none⟩) rfl (fun K' hK => ?_) AllReadyH.nil)
  refine wp_load_blk 26 _ rfl w.heap.size 26 x.cells _ rfl b4 Tryz.underlying26 rfl (cpu_sz _) ?_
  refine hK.out _ _ (b4.cell (j := 26) (v := .bool x.u) rfl) (fun hHeld => ?_)
  clear hK K'
  try simp only [Act.put, List.setIfInBounds_toArray, List.set_cons_zero, List.set_cons_succ]
  refine wpAnyH_ready (rs := [1]) (by kernel_rfl) (by simp) (AllReadyH.cons (o := ⟨some 10, .call { callee := .value (.func 90), args := #[.tmp 9, .const (.int .u32 1)], argTypes := #[26, 22] }, _, _, _, none⟩) rfl (fun K' hK => ?_) AllReadyH.nil)
  go_simp
  refine (HH.out _).mono ?_
  rintro e v1 ⟨rfl, l1⟩
  replace b4 := b4.keep l1
  replace b8 := b8.keep l1
  replace lw := Later.trans_ lw l1
  refine hK.out _ _ (b4.cell (j := 26) (v := .bool x.u) rfl) (fun hHeld => ?_)
  clear hK K'
  try simp only [Act.put, List.setIfInBounds_toArray, List.set_cons_zero, List.set_cons_succ]
  refine wpAnyH_ready (rs := [2]) (by kernel_rfl) (by simp) (AllReadyH.cons (o := ⟨some 11, .call { callee := .value (.func 89), args := #[.tmp 10, .const (.int .u32 2)], argTypes := #[4, 22] }, _, _, _, none⟩) rfl (fun K' hK => ?_) AllReadyH.nil)
  go_simp
  refine (HW1.out _).mono ?_
  rintro e v2 ⟨rfl, rfl⟩
  refine hK.out _ _ (b4.cell (j := 26) (v := .bool x.u) rfl) (fun hHeld => ?_)
  clear hK K'
  try simp only [Act.put, List.setIfInBounds_toArray, List.set_cons_zero, List.set_cons_succ]
  refine wpAnyH_ready (rs := [5]) (by kernel_rfl) (by simp) (AllReadyH.cons (o := ⟨some 14, .call { callee := .value (.func 89), args := #[.tmp 13, .const (.int .u32 4)], argTypes := #[4, 22] }, _, _, _, none⟩) rfl (fun K' hK => ?_) AllReadyH.nil)
  go_simp
  refine (HW2.out _).mono ?_
  rintro e v2 ⟨rfl, rfl⟩
  refine hK.out _ _ (b4.cell (j := 26) (v := .bool x.u) rfl) (fun hHeld => ?_)
  clear hK K'
  try simp only [Act.put, List.setIfInBounds_toArray, List.set_cons_zero, List.set_cons_succ]
  refine wpAnyH_take (i := 6) (oi := ⟨some 15, .binOp .or 22 (.tmp 11) (.tmp 14) 22, _, _, _, none⟩) (v := .int .u32 (b32 s 2 + b32 x.u 4)) rfl (by kernel_rfl) (by kernel_rfl) (by kernel_rfl) (fun _ _ _ h => h) (Or.inl ⟨by rfl, fun w _ => by go_simp⟩) hHeld ?_
  simp only [Act.put, List.setIfInBounds_toArray, List.set_cons_zero, List.set_cons_succ]
  refine wpAnyH_take (i := 8) (oi := ⟨some 17, .indexAddr 24 (.tmp 16) (.const (.int .i64 5)), _, _, _, none⟩) (v := .pointer (some ⟨w.heap.size, 22, none⟩)) rfl (by kernel_rfl) (by kernel_rfl) (by kernel_rfl) (fun _ _ _ h => h) (Or.inl ⟨by rfl, fun w _ => by go_simp⟩) hHeld ?_
  simp only [Act.put, List.setIfInBounds_toArray, List.set_cons_zero, List.set_cons_succ]
  refine wpAnyH_ready (rs := [9]) (by kernel_rfl) (by simp) (AllReadyH.cons (o := ⟨none, .store 22 (.tmp 17) (.tmp 15), _, _, _, none⟩) rfl (fun K' hK => ?_) AllReadyH.nil)
  have e1 := b4.cell (j := 22) (v := .int .u32 x.c5) rfl
  have f1 := b4.frz 22
  go_simp
  clear e1 f1
  replace b4 : Blk _ w.heap.size 26 ({ x with c5 := (b32 s 2 + b32 x.u 4) } : Cpu).cells := b4.set 22 (.int .u32 (b32 s 2 + b32 x.u 4))
  replace b8 := b8.set_other ⟨w.heap.size, 22, none⟩ (.int .u32 (b32 s 2 + b32 x.u 4)) (by first | (simp; done) | (simp; omega))
  replace lw := lw.setCell (p := ⟨w.heap.size, 22, none⟩) (by first | (simp; done) | (simp; omega)) (.int .u32 (b32 s 2 + b32 x.u 4))
  refine hK.out _ _ (b4.cell (j := 26) (v := .bool x.u) rfl) (fun hHeld => ?_)
  clear hK K'
  try simp only [Act.put, List.setIfInBounds_toArray, List.set_cons_zero, List.set_cons_succ]
  refine wpAnyH_done (by kernel_rfl) ?_ _
  clear hHeld
  obtain ⟨u1, hu1⟩ : ∃ u1, u1 = v1.setCell ⟨w.heap.size, 22, none⟩ (.int .u32 (b32 s 2 + b32 x.u 4)) := ⟨_, rfl⟩
  rw [← hu1] at b4 b8 lw ⊢
  clear hu1
  have e10 := b4.cell (j := 20) (v := .int .u32 x.c3) rfl
  have f10 := b4.frz 20
  have e11 := b4.cell (j := 21) (v := .int .u32 x.c4) rfl
  have f11 := b4.frz 21
  have e12 := b4.cell (j := 19) (v := .int .u32 x.c2) rfl
  have f12 := b4.frz 19
  have e13 := b4.cell (j := 0) (v := .int .u32 x.pc) rfl
  have f13 := b4.frz 0
  have e14 := b4.cell (j := 26) (v := .bool x.u) rfl
  have f14 := b4.frz 26
  have e15 := b4.cell (j := 27) (v := .bool x.wt) rfl
  have f15 := b4.frz 27
  have e16 := b4.cell (j := 18) (v := .int .u32 x.c1) rfl
  have f16 := b4.frz 18
  clear HH HW1 HW2 hor l1
  go_upto_region 5 with fail
  obtain ⟨u2, hu2⟩ : ∃ u2, u2 = ((((((u1.setCell ⟨w.heap.size, 20, none⟩ (.int .u32 ca)).setCell ⟨w.heap.size, 21, none⟩ (.int .u32 va)).setCell ⟨w.heap.size, 19, none⟩ (.int .u32 ep)).setCell ⟨w.heap.size, 0, none⟩ (.int .u32 x.c1)).setCell ⟨w.heap.size, 26, none⟩ (.bool false)).setCell ⟨w.heap.size, 27, none⟩ (.bool false)) := ⟨_, rfl⟩
  rw [← hu2]
  have b5 : Blk u2 w.heap.size 26 ({ x with c5 := (b32 s 2 + b32 x.u 4), c3 := ca, c4 := va, c2 := ep, pc := x.c1, u := false, wt := false } : Cpu).cells := by
    rw [hu2]
    exact ((((((b4.set 20 (.int .u32 ca)).set 21 (.int .u32 va)).set 19 (.int .u32 ep)).set 0 (.int .u32 x.c1)).set 26 (.bool false)).set 27 (.bool false))
  replace b8 : Blk u2 (w.heap.size + 1) 26 zC.cells := by
    rw [hu2]
    exact ((((((b8.set_other ⟨w.heap.size, 20, none⟩ (.int .u32 ca) (by first | (simp; done) | (simp; omega))).set_other ⟨w.heap.size, 21, none⟩ (.int .u32 va) (by first | (simp; done) | (simp; omega))).set_other ⟨w.heap.size, 19, none⟩ (.int .u32 ep) (by first | (simp; done) | (simp; omega))).set_other ⟨w.heap.size, 0, none⟩ (.int .u32 x.c1) (by first | (simp; done) | (simp; omega))).set_other ⟨w.heap.size, 26, none⟩ (.bool false) (by first | (simp; done) | (simp; omega))).set_other ⟨w.heap.size, 27, none⟩ (.bool false) (by first | (simp; done) | (simp; omega)))
  replace lw : Later w u2 := by
    rw [hu2]
    exact ((((((lw.setCell (p := ⟨w.heap.size, 20, none⟩) (by first | (simp; done) | (simp; omega)) (.int .u32 ca)).setCell (p := ⟨w.heap.size, 21, none⟩) (by first | (simp; done) | (simp; omega)) (.int .u32 va)).setCell (p := ⟨w.heap.size, 19, none⟩) (by first | (simp; done) | (simp; omega)) (.int .u32 ep)).setCell (p := ⟨w.heap.size, 0, none⟩) (by first | (simp; done) | (simp; omega)) (.int .u32 x.c1)).setCell (p := ⟨w.heap.size, 26, none⟩) (by first | (simp; done) | (simp; omega)) (.bool false)).setCell (p := ⟨w.heap.size, 27, none⟩) (by first | (simp; done) | (simp; omega)) (.bool false))
  clear hu2 b4 e10 f10 e11 f11 e12 f12 e13 f13 e14 f14 e15 f15 e16 f16
  obtain ⟨Y, hY⟩ : ∃ Y : Cpu, Y = ({ x with c5 := (b32 s 2 + b32 x.u 4), c3 := ca, c4 := va, c2 := ep, pc := x.c1, u := false, wt := false } : Cpu) := ⟨_, rfl⟩
  have HY := Lib.hid hY
  rw [← hY] at b5
  clear hY
  go_wp2_with (first
    | ((with_reducible refine wpList_load_blk (o := ⟨some 33, .load 26 (.tmp 4), _, _, _, none⟩) rfl _ _ rfl w.heap.size 26 Y.cells _ ?_ ?_ Tryz.underlying26 rfl (cpu_sz _) ?_); rfl; exact b5)
    | ((with_reducible refine wpList_store_abs (o := ⟨none, .store 26 (.tmp 8) (.tmp 33), _, _, _, none⟩) rfl _ _ _ rfl (w.heap.size + 1) 26 zC.cells Y.cells ?_ ?_ ?_ ?_ ?_ ?_ ?_); rfl; rfl; exact b8; exact cpu_sz _; rfl; exact cpu_one _; intro w9 b9 o9))
  have hl : Later w w9 := Below.only lw o9 (by omega)
  exact bodyPost_ret (cpu_ret Tryz.results47 _ _ (w.heap.size + 1) Y rfl b9) rfl ⟨by rw [HY.out], hl⟩
set_option maxRecDepth 100000 in
set_option maxHeartbeats 1000000 in
theorem return_any (x : Cpu) (w : World) (h : Tm.isE x.c5) : Calls Tryz.prog 166 #[.agg x.cells.toArray] w fun e w' => e = .returned (.agg (Cpu.back x).cells.toArray) ∧ Later w w' := by
  have HH := Lib.hid fun w' => has_bit x 2 4 rfl (by omega) h w'
  obtain ⟨s4, hs4⟩ : ∃ s, s = Tm.has x.c5 4 := ⟨_, rfl⟩
  rw [← hs4] at HH
  have HH2 := Lib.hid fun w' => has_bit ({ x with pc := x.c2, u := s4 } : Cpu) 1 2 rfl (by omega) h w'
  rw [show Tm.has ({ x with pc := x.c2, u := s4 } : Cpu).c5 2 = Tm.has x.c5 2 from rfl] at HH2
  clear h
  have b4 := (Blk.new w 26 x.cells.toArray x.cells rfl).alloc (.cells zC.cells.toArray 26)
  have b8 := Blk.new' (w.alloc (.cells x.cells.toArray 26)) (w.heap.size + 1) 26 zC.cells.toArray zC.cells (by simp) rfl
  have lw := (later1 w (.cells x.cells.toArray 26)).alloc (by simp) (.cells zC.cells.toArray 26)
  obtain ⟨s2, hs2⟩ : ∃ s, s = Tm.has x.c5 2 := ⟨_, rfl⟩
  have hx : (Cpu.back x) = ({ x with pc := x.c2, u := s4, c5 := (b32 s2 1 + 2) } : Cpu) := by rw [hs4, hs2]; rfl
  rw [hx]
  rw [← hs2] at HH2
  clear hs2 hs4 hx
  have HW1 := Lib.hid fun w' => when_any s2 1 w'
  have hor := or_12 s2
  go_enter Tryz.func166, Tryz.ntmps166
  go_wp2
  obtain ⟨u0, hu⟩ : ∃ u0, (w.alloc (.cells x.cells.toArray 26)).alloc (.cells zC.cells.toArray 26) = u0 := ⟨_, rfl⟩
  rw [hu] at b4 b8 lw
  have hu2 : (w.alloc (.cells x.cells.toArray 26)).alloc (.cells #[.int .u32 0, .int .u32 0, .int .u32 0, .int .u32 0, .int .u32 0, .int .u32 0, .int .u32 0, .int .u32 0, .int .u32 0, .int .u32 0, .int .u32 0, .int .u32 0, .int .u32 0, .int .u32 0, .int .u32 0, .int .u32 0, .int .u32 0, .int .u32 0, .int .u32 0, .int .u32 0, .int .u32 0, .int .u32 0, .int .u32 0, .int .u32 0, .int .u32 0, .int .u32 0, .bool false, .bool false, .bool false, .int .i64 0] 26) = u0 := hu
  rw [hu2]
  clear hu hu2
  replace b4 := b4.drew
  replace b8 := b8.drew
  replace lw := lw.drew
  refine wp_region_held_drew (S := fun w' => w'.cell? ⟨w.heap.size, 19, none⟩ = some (.int .u32 x.c2)) (by kernel_rfl) (b4.cell (j := 19) (v := .int .u32 x.c2) rfl) (fun hHeld => ?_)
  refine wpAnyH_take (i := 0) (oi := ⟨some 3, .fieldAddr 26 (.tmp 1) 2, _, _, _, none⟩) (v := .pointer (some ⟨w.heap.size, 17, none⟩)) rfl (by kernel_rfl) (by kernel_rfl) (by kernel_rfl) (fun _ _ _ h => h) (Or.inl ⟨by rfl, fun w _ => by go_simp⟩) hHeld ?_
  simp only [Act.put, List.setIfInBounds_toArray, List.set_cons_zero, List.set_cons_succ]
  refine wpAnyH_take (i := 1) (oi := ⟨some 4, .indexAddr 24 (.tmp 3) (.const (.int .i64 2)), _, _, _, none⟩) (v := .pointer (some ⟨w.heap.size, 19, none⟩)) rfl (by kernel_rfl) (by kernel_rfl) (by kernel_rfl) (fun _ _ _ h => h) (Or.inl ⟨by rfl, fun w _ => by go_simp⟩) hHeld ?_
  simp only [Act.put, List.setIfInBounds_toArray, List.set_cons_zero, List.set_cons_succ]
  refine wpAnyH_take (i := 2) (oi := ⟨some 5, .load 22 (.tmp 4), _, _, _, none⟩) (v := .int .u32 x.c2) rfl (by kernel_rfl) (by kernel_rfl) (by kernel_rfl) (fun _ _ _ h => h) (Or.inl ⟨by rfl, fun w hSw => by have e1 := hSw; clear hSw; go_simp⟩) hHeld ?_
  simp only [Act.put, List.setIfInBounds_toArray, List.set_cons_zero, List.set_cons_succ]
  refine wpAnyH_ready (rs := [3]) (by kernel_rfl) (by simp) (AllReadyH.cons (o := ⟨some 6, .load 26 (.tmp 1), _, _, _, none⟩) rfl (fun K' hK => ?_) AllReadyH.nil)
  refine wp_load_blk 26 _ rfl w.heap.size 26 x.cells _ rfl b4 Tryz.underlying26 rfl (cpu_sz _) ?_
  refine hK.out _ _ (b4.cell (j := 19) (v := .int .u32 x.c2) rfl) (fun hHeld => ?_)
  clear hK K'
  try simp only [Act.put, List.setIfInBounds_toArray, List.set_cons_zero, List.set_cons_succ]
  refine wpAnyH_take (i := 5) (oi := ⟨some 8, .fieldAddr 26 (.tmp 1) 0, _, _, _, none⟩) (v := .pointer (some ⟨w.heap.size, 0, none⟩)) rfl (by kernel_rfl) (by kernel_rfl) (by kernel_rfl) (fun _ _ _ h => h) (Or.inl ⟨by rfl, fun w _ => by go_simp⟩) hHeld ?_
  simp only [Act.put, List.setIfInBounds_toArray, List.set_cons_zero, List.set_cons_succ]
  refine wpAnyH_ready (rs := [4]) (by kernel_rfl) (by simp) (AllReadyH.cons (o := ⟨some 7, .call { callee := .value (.func 90), args := #[.tmp 6, .const (.int .u32 4)], argTypes := #[26, 22] }, _, _, _, none⟩) rfl (fun K' hK => ?_) AllReadyH.nil)
  go_simp
  refine (HH.out _).mono ?_
  rintro e v1 ⟨rfl, l1⟩
  replace b4 := b4.keep l1
  replace b8 := b8.keep l1
  replace lw := Later.trans_ lw l1
  refine hK.out _ _ (b4.cell (j := 19) (v := .int .u32 x.c2) rfl) (fun hHeld => ?_)
  clear hK K'
  try simp only [Act.put, List.setIfInBounds_toArray, List.set_cons_zero, List.set_cons_succ]
  refine wpAnyH_ready (rs := [6]) (by kernel_rfl) (by simp) (AllReadyH.cons (o := ⟨none, .store 22 (.tmp 8) (.tmp 5), _, _, _, none⟩) rfl (fun K' hK => ?_) AllReadyH.nil)
  have e1 := b4.cell (j := 0) (v := .int .u32 x.pc) rfl
  have f1 := b4.frz 0
  go_simp
  clear e1 f1
  replace b4 : Blk _ w.heap.size 26 ({ x with pc := x.c2 } : Cpu).cells := b4.set 0 (.int .u32 x.c2)
  replace b8 := b8.set_other ⟨w.heap.size, 0, none⟩ (.int .u32 x.c2) (by first | (simp; done) | (simp; omega))
  replace lw := lw.setCell (p := ⟨w.heap.size, 0, none⟩) (by first | (simp; done) | (simp; omega)) (.int .u32 x.c2)
  refine hK.out _ _ (b4.cell (j := 19) (v := .int .u32 x.c2) rfl) (fun hHeld => ?_)
  clear hK K'
  try simp only [Act.put, List.setIfInBounds_toArray, List.set_cons_zero, List.set_cons_succ]
  refine wpAnyH_take (i := 7) (oi := ⟨some 9, .fieldAddr 26 (.tmp 1) 3, _, _, _, none⟩) (v := .pointer (some ⟨w.heap.size, 26, none⟩)) rfl (by kernel_rfl) (by kernel_rfl) (by kernel_rfl) (fun _ _ _ h => h) (Or.inl ⟨by rfl, fun w _ => by go_simp⟩) hHeld ?_
  simp only [Act.put, List.setIfInBounds_toArray, List.set_cons_zero, List.set_cons_succ]
  refine wpAnyH_ready (rs := [8]) (by kernel_rfl) (by simp) (AllReadyH.cons (o := ⟨none, .store 4 (.tmp 9) (.tmp 7), _, _, _, none⟩) rfl (fun K' hK => ?_) AllReadyH.nil)
  have e1 := b4.cell (j := 26) (v := .bool x.u) rfl
  have f1 := b4.frz 26
  go_simp
  clear e1 f1
  replace b4 : Blk _ w.heap.size 26 ({ x with pc := x.c2, u := s4 } : Cpu).cells := b4.set 26 (.bool s4)
  replace b8 := b8.set_other ⟨w.heap.size, 26, none⟩ (.bool s4) (by first | (simp; done) | (simp; omega))
  replace lw := lw.setCell (p := ⟨w.heap.size, 26, none⟩) (by first | (simp; done) | (simp; omega)) (.bool s4)
  refine hK.out _ _ (b4.cell (j := 19) (v := .int .u32 x.c2) rfl) (fun hHeld => ?_)
  clear hK K'
  try simp only [Act.put, List.setIfInBounds_toArray, List.set_cons_zero, List.set_cons_succ]
  refine wpAnyH_done (by kernel_rfl) ?_ _
  clear hHeld
  obtain ⟨u1, hu1⟩ : ∃ u1, u1 = (v1.setCell ⟨w.heap.size, 0, none⟩ (.int .u32 x.c2)).setCell ⟨w.heap.size, 26, none⟩ (.bool s4) := ⟨_, rfl⟩
  rw [← hu1] at b4 b8 lw ⊢
  clear hu1 HH l1
  go_upto_region 3 with (first
    | ((with_reducible refine wpList_load_blk (o := ⟨some 10, .load 26 (.tmp 1), _, _, _, none⟩) rfl _ _ rfl w.heap.size 26 ({ x with pc := x.c2, u := s4 } : Cpu).cells _ ?_ ?_ Tryz.underlying26 rfl (cpu_sz _) ?_); rfl; exact b4)
    | (go_at_call 90; refine (HH2.out _).mono ?_; rintro e v3 ⟨rfl, l3⟩; replace b4 := b4.keep l3; replace b8 := b8.keep l3; replace lw := Later.trans_ lw l3; have e10 := b4.cell (j := 22) (v := .int .u32 x.c5) rfl; have f10 := b4.frz 22)
    | (go_at_call 89; refine (HW1.out _).mono ?_; rintro e v4 ⟨rfl, rfl⟩))
  obtain ⟨u2, hu2⟩ : ∃ u2, u2 = (v3.setCell ⟨w.heap.size, 22, none⟩ (.int .u32 (b32 s2 1 + 2))) := ⟨_, rfl⟩
  rw [← hu2]
  have b5 : Blk u2 w.heap.size 26 ({ x with pc := x.c2, u := s4, c5 := (b32 s2 1 + 2) } : Cpu).cells := by
    rw [hu2]
    exact (b4.set 22 (.int .u32 (b32 s2 1 + 2)))
  replace b8 : Blk u2 (w.heap.size + 1) 26 zC.cells := by
    rw [hu2]
    exact (b8.set_other ⟨w.heap.size, 22, none⟩ (.int .u32 (b32 s2 1 + 2)) (by first | (simp; done) | (simp; omega)))
  replace lw : Later w u2 := by
    rw [hu2]
    exact (lw.setCell (p := ⟨w.heap.size, 22, none⟩) (by first | (simp; done) | (simp; omega)) (.int .u32 (b32 s2 1 + 2)))
  clear hu2 b4 e10 f10
  obtain ⟨Y, hY⟩ : ∃ Y : Cpu, Y = ({ x with pc := x.c2, u := s4, c5 := (b32 s2 1 + 2) } : Cpu) := ⟨_, rfl⟩
  have HY := Lib.hid hY
  rw [← hY] at b5
  clear hY
  go_wp2_with (first
    | ((with_reducible refine wpList_load_blk (o := ⟨some 16, .load 26 (.tmp 1), _, _, _, none⟩) rfl _ _ rfl w.heap.size 26 Y.cells _ ?_ ?_ Tryz.underlying26 rfl (cpu_sz _) ?_); rfl; exact b5)
    | ((with_reducible refine wpList_store_abs (o := ⟨none, .store 26 (.tmp 2) (.tmp 16), _, _, _, none⟩) rfl _ _ _ rfl (w.heap.size + 1) 26 zC.cells Y.cells ?_ ?_ ?_ ?_ ?_ ?_ ?_); rfl; rfl; exact b8; exact cpu_sz _; rfl; exact cpu_one _; intro w9 b9 o9))
  have hl : Later w w9 := Below.only lw o9 (by omega)
  exact bodyPost_ret (cpu_ret Tryz.results166 _ _ (w.heap.size + 1) Y rfl b9) rfl ⟨by rw [HY.out], hl⟩
end Go.Proofs.YtidhodalnikhlaaGreatDoor
