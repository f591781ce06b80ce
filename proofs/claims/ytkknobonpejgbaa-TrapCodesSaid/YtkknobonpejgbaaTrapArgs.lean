/-
  A PROCESSOR AS AN ARGUMENT: its thirty cells.
-/
import Derived.Test.YtkknobonpejgbaaMemArgs
namespace Go.Proofs.Ytkknobonpejgbaa
open Go.RowKit Go.ChangeShapes Go.WideShapes Go.ChangeAt

def w32 (l : List Int) : Prop := ∀ x ∈ l, 0 ≤ x ∧ x ≤ 4294967295
section
variable {H : Type} {enc : TypeId × Value → H} {P : Program} {W : World} {r : Reach} {b0 : Nat} {v : Value} {d : DataW H} {p : List MemPlace}
theorem cpu_cells {t tu tr tc tb ti : TypeId} {fs : Array Field} (ht : P.underlying t = some (.struct fs)) (hf : fs.toList.map (fun f => (f.type, f.offset)) = [(tu, 0), (tr, 1), (tc, 17), (tb, 26), (tb, 27), (tb, 28), (ti, 29)])
    (hu : P.underlying tu = some (.int .u32)) (hr : P.underlying tr = some (.array 16 tu)) (hc : P.underlying tc = some (.array 9 tu)) (hb : P.underlying tb = some .bool) (hi : P.underlying ti = some (.int .i64))
    (ku : P.cellsOf tu = 1) (kr : P.cellsOf tr = 16) (kc : P.cellsOf tc = 9) (kb : P.cellsOf tb = 1) (ki : P.cellsOf ti = 1) (kt : P.cellsOf t = 30)
    (hv : Value.okWide P W r b0 t v) (h : DataW.Trod enc P W 0 (fun _ => true) true t v d p) :
    ∃ l : List Value, v = .agg l.toArray ∧ l.length = 30 ∧ (∀ i, i < 26 → ∃ m : Int, l[i]? = some (.int .u32 m) ∧ 0 ≤ m ∧ m ≤ 4294967295) ∧ (∀ i, 26 ≤ i → i < 29 → ∃ b, l[i]? = some (.bool b)) ∧ ∃ n : Int, l[29]? = some (.int .i64 n) ∧ -9223372036854775808 ≤ n ∧ n ≤ 9223372036854775807 := by
  obtain ⟨cs, rfl, hsz⟩ := okWide_struct ht hv
  obtain ⟨fuel, hf'⟩ := h
  obtain ⟨xs, n, _, _, hl, hlen, hall⟩ := DataW.trod_struct ht hf'
  rw [kt] at hsz
  obtain ⟨l⟩ := cs
  have hn : fs.size = 7 := by simpa using congrArg List.length hf
  have hl30 : l.length = 30 := by simpa using hsz
  have fld : ∀ i, i < 7 → ∃ tt oo y, [(tu, 0), (tr, 1), (tc, 17), (tb, 26), (tb, 27), (tb, 28), (ti, 29)][i]? = some (tt, oo) ∧ DataW.trod enc P W 0 (fun _ => true) true n tt ((l.drop oo).take (P.cellsOf tt)) = some y := by
    intro i hi7
    have h1 : (fs.toList.map (fun f => (f.type, f.offset)))[i]? = some ((fs[i]'(by omega)).type, (fs[i]'(by omega)).offset) := by simp [hn, hi7]
    have h2 := hall i (fs[i]'(by omega)) (by simp [hn, hi7])
    obtain ⟨b, hb⟩ : ∃ b, xs[i]? = some b := ⟨xs[i]'(by omega), List.getElem?_eq_getElem (by omega)⟩
    rw [hb] at h2
    rw [hf] at h1
    exact ⟨_, _, b, h1, h2⟩
  have w1 : IntKind.u32.min = 0 := rfl
  have w2 : IntKind.u32.max = 4294967295 := rfl
  have w3 : IntKind.i64.min = -9223372036854775808 := rfl
  have w4 : IntKind.i64.max = 9223372036854775807 := rfl
  have at1 : ∀ (o : Nat) (x : Value), (l.drop o).take 1 = [x] → l[o]? = some x := by
    intro o x hx
    have := congrArg (·[0]?) hx
    simpa [List.getElem?_take, List.getElem?_drop] using this
  have arr : ∀ (o k : Nat) (ta : TypeId) y, P.underlying ta = some (.array k tu) → P.cellsOf ta = k → DataW.trod enc P W 0 (fun _ => true) true n ta ((l.drop o).take k) = some y → ∀ i, i < k → ∃ m : Int, l[o + i]? = some (.int .u32 m) ∧ 0 ≤ m ∧ m ≤ 4294967295 := by
    intro o k ta y hta hka hy i hik
    obtain ⟨ys, q, _, _, _, hyl, hya⟩ := DataW.trod_array hta hy
    have h2 := hya i hik
    obtain ⟨b, hb⟩ : ∃ b, ys[i]? = some b := ⟨ys[i]'(by omega), List.getElem?_eq_getElem (by omega)⟩
    rw [hb, ku, Nat.mul_one] at h2
    obtain ⟨z, hz, _, hw⟩ := DataW.trod_int hu h2
    have h3 : l[o + i]? = some (.int .u32 z) := by
      have := congrArg (·[0]?) hz
      simpa [List.getElem?_take, List.getElem?_drop, hik] using this
    simp only [Lit.wf, Bool.and_eq_true, decide_eq_true_eq] at hw
    exact ⟨z, h3, by omega, by omega⟩
  refine ⟨l, rfl, hl30, ?_, ?_, ?_⟩
  · intro i hi
    obtain ⟨t0, o0, y0, e0, f0⟩ := fld 0 (by omega)
    obtain ⟨t1, o1, y1, e1, f1⟩ := fld 1 (by omega)
    obtain ⟨t2, o2, y2, e2, f2⟩ := fld 2 (by omega)
    obtain ⟨rfl, rfl⟩ : tu = t0 ∧ 0 = o0 := by simpa using e0
    obtain ⟨rfl, rfl⟩ : tr = t1 ∧ 1 = o1 := by simpa using e1
    obtain ⟨rfl, rfl⟩ : tc = t2 ∧ 17 = o2 := by simpa using e2
    rw [ku] at f0
    rw [kr] at f1
    rw [kc] at f2
    by_cases h0 : i = 0
    · subst h0
      obtain ⟨z, hz, _, hw⟩ := DataW.trod_int hu f0
      simp only [Lit.wf, Bool.and_eq_true, decide_eq_true_eq] at hw
      exact ⟨z, at1 _ _ hz, by omega, by omega⟩
    · by_cases h1 : i < 17
      · have := arr 1 16 tr y1 hr kr f1 (i - 1) (by omega)
        rwa [show 1 + (i - 1) = i by omega] at this
      · have := arr 17 9 tc y2 hc kc f2 (i - 17) (by omega)
        rwa [show 17 + (i - 17) = i by omega] at this
  · intro i h26 h29
    obtain ⟨t3, o3, y3, e3, f3⟩ := fld 3 (by omega)
    obtain ⟨t4, o4, y4, e4, f4⟩ := fld 4 (by omega)
    obtain ⟨t5, o5, y5, e5, f5⟩ := fld 5 (by omega)
    obtain ⟨rfl, rfl⟩ : tb = t3 ∧ 26 = o3 := by simpa using e3
    obtain ⟨rfl, rfl⟩ : tb = t4 ∧ 27 = o4 := by simpa using e4
    obtain ⟨rfl, rfl⟩ : tb = t5 ∧ 28 = o5 := by simpa using e5
    rw [kb] at f3 f4 f5
    rcases (show i = 26 ∨ i = 27 ∨ i = 28 by omega) with rfl | rfl | rfl
    · obtain ⟨z, hz, _⟩ := DataW.trod_bool hb f3
      exact ⟨z, at1 _ _ hz⟩
    · obtain ⟨z, hz, _⟩ := DataW.trod_bool hb f4
      exact ⟨z, at1 _ _ hz⟩
    · obtain ⟨z, hz, _⟩ := DataW.trod_bool hb f5
      exact ⟨z, at1 _ _ hz⟩
  · obtain ⟨t6, o6, y6, e6, f6⟩ := fld 6 (by omega)
    obtain ⟨rfl, rfl⟩ : ti = t6 ∧ 29 = o6 := by simpa using e6
    rw [ki] at f6
    obtain ⟨z, hz, _, hw⟩ := DataW.trod_int hi f6
    simp only [Lit.wf, Bool.and_eq_true, decide_eq_true_eq] at hw
    exact ⟨z, at1 _ _ hz, by omega, by omega⟩
/-- A processor: its thirty cells. -/
theorem cpu_arg {t tu tr tc tb ti : TypeId} {fs : Array Field} (ht : P.underlying t = some (.struct fs)) (hf : fs.toList.map (fun f => (f.type, f.offset)) = [(tu, 0), (tr, 1), (tc, 17), (tb, 26), (tb, 27), (tb, 28), (ti, 29)])
    (hu : P.underlying tu = some (.int .u32)) (hr : P.underlying tr = some (.array 16 tu)) (hc : P.underlying tc = some (.array 9 tu)) (hb : P.underlying tb = some .bool) (hi : P.underlying ti = some (.int .i64))
    (ku : P.cellsOf tu = 1) (kr : P.cellsOf tr = 16) (kc : P.cellsOf tc = 9) (kb : P.cellsOf tb = 1) (ki : P.cellsOf ti = 1) (kt : P.cellsOf t = 30)
    (hv : Value.okWide P W r b0 t v) (h : DataW.Trod enc P W 0 (fun _ => true) true t v d p) :
    ∃ (pc r0 r1 r2 r3 r4 r5 r6 r7 r8 r9 r10 r11 r12 r13 r14 r15 c0 c1 c2 c3 c4 c5 c6 c7 c8 : Int) (u wt hl : Bool) (cn : Int), v = .agg #[.int .u32 pc, .int .u32 r0, .int .u32 r1, .int .u32 r2, .int .u32 r3, .int .u32 r4, .int .u32 r5, .int .u32 r6, .int .u32 r7, .int .u32 r8, .int .u32 r9, .int .u32 r10, .int .u32 r11, .int .u32 r12, .int .u32 r13, .int .u32 r14, .int .u32 r15, .int .u32 c0, .int .u32 c1, .int .u32 c2, .int .u32 c3, .int .u32 c4, .int .u32 c5, .int .u32 c6, .int .u32 c7, .int .u32 c8, .bool u, .bool wt, .bool hl, .int .i64 cn] ∧ w32 [pc, r0, r1, r2, r3, r4, r5, r6, r7, r8, r9, r10, r11, r12, r13, r14, r15, c0, c1, c2, c3, c4, c5, c6, c7, c8] ∧ -9223372036854775808 ≤ cn ∧ cn ≤ 9223372036854775807 := by
  obtain ⟨l, rfl, hl, h1, h2, n, h3, h4, h5⟩ := cpu_cells ht hf hu hr hc hb hi ku kr kc kb ki kt hv h
  obtain ⟨pc, e0, b0⟩ := h1 0 (by omega)
  obtain ⟨r0, e1, b1⟩ := h1 1 (by omega)
  obtain ⟨r1, e2, b2⟩ := h1 2 (by omega)
  obtain ⟨r2, e3, b3⟩ := h1 3 (by omega)
  obtain ⟨r3, e4, b4⟩ := h1 4 (by omega)
  obtain ⟨r4, e5, b5⟩ := h1 5 (by omega)
  obtain ⟨r5, e6, b6⟩ := h1 6 (by omega)
  obtain ⟨r6, e7, b7⟩ := h1 7 (by omega)
  obtain ⟨r7, e8, b8⟩ := h1 8 (by omega)
  obtain ⟨r8, e9, b9⟩ := h1 9 (by omega)
  obtain ⟨r9, e10, b10⟩ := h1 10 (by omega)
  obtain ⟨r10, e11, b11⟩ := h1 11 (by omega)
  obtain ⟨r11, e12, b12⟩ := h1 12 (by omega)
  obtain ⟨r12, e13, b13⟩ := h1 13 (by omega)
  obtain ⟨r13, e14, b14⟩ := h1 14 (by omega)
  obtain ⟨r14, e15, b15⟩ := h1 15 (by omega)
  obtain ⟨r15, e16, b16⟩ := h1 16 (by omega)
  obtain ⟨c0, e17, b17⟩ := h1 17 (by omega)
  obtain ⟨c1, e18, b18⟩ := h1 18 (by omega)
  obtain ⟨c2, e19, b19⟩ := h1 19 (by omega)
  obtain ⟨c3, e20, b20⟩ := h1 20 (by omega)
  obtain ⟨c4, e21, b21⟩ := h1 21 (by omega)
  obtain ⟨c5, e22, b22⟩ := h1 22 (by omega)
  obtain ⟨c6, e23, b23⟩ := h1 23 (by omega)
  obtain ⟨c7, e24, b24⟩ := h1 24 (by omega)
  obtain ⟨c8, e25, b25⟩ := h1 25 (by omega)
  obtain ⟨u, e26⟩ := h2 26 (by omega) (by omega)
  obtain ⟨wt, e27⟩ := h2 27 (by omega) (by omega)
  obtain ⟨hl, e28⟩ := h2 28 (by omega) (by omega)
  refine ⟨pc, r0, r1, r2, r3, r4, r5, r6, r7, r8, r9, r10, r11, r12, r13, r14, r15, c0, c1, c2, c3, c4, c5, c6, c7, c8, u, wt, hl, n, ?_, ?_, h4, h5⟩
  · have hg : l = [.int .u32 pc, .int .u32 r0, .int .u32 r1, .int .u32 r2, .int .u32 r3, .int .u32 r4, .int .u32 r5, .int .u32 r6, .int .u32 r7, .int .u32 r8, .int .u32 r9, .int .u32 r10, .int .u32 r11, .int .u32 r12, .int .u32 r13, .int .u32 r14, .int .u32 r15, .int .u32 c0, .int .u32 c1, .int .u32 c2, .int .u32 c3, .int .u32 c4, .int .u32 c5, .int .u32 c6, .int .u32 c7, .int .u32 c8, .bool u, .bool wt, .bool hl, .int .i64 n] := by
      apply List.ext_getElem?
      intro i
      by_cases hi30 : i < 30
      · rcases (show i = 0 ∨ i = 1 ∨ i = 2 ∨ i = 3 ∨ i = 4 ∨ i = 5 ∨ i = 6 ∨ i = 7 ∨ i = 8 ∨ i = 9 ∨ i = 10 ∨ i = 11 ∨ i = 12 ∨ i = 13 ∨ i = 14 ∨ i = 15 ∨ i = 16 ∨ i = 17 ∨ i = 18 ∨ i = 19 ∨ i = 20 ∨ i = 21 ∨ i = 22 ∨ i = 23 ∨ i = 24 ∨ i = 25 ∨ i = 26 ∨ i = 27 ∨ i = 28 ∨ i = 29 by omega) with rfl | rfl | rfl | rfl | rfl | rfl | rfl | rfl | rfl | rfl | rfl | rfl | rfl | rfl | rfl | rfl | rfl | rfl | rfl | rfl | rfl | rfl | rfl | rfl | rfl | rfl | rfl | rfl | rfl | rfl
        · exact e0
        · exact e1
        · exact e2
        · exact e3
        · exact e4
        · exact e5
        · exact e6
        · exact e7
        · exact e8
        · exact e9
        · exact e10
        · exact e11
        · exact e12
        · exact e13
        · exact e14
        · exact e15
        · exact e16
        · exact e17
        · exact e18
        · exact e19
        · exact e20
        · exact e21
        · exact e22
        · exact e23
        · exact e24
        · exact e25
        · exact e26
        · exact e27
        · exact e28
        · exact h3
      · rw [List.getElem?_eq_none (by omega), List.getElem?_eq_none (by simp only [List.length_cons, List.length_nil]; omega)]
    rw [hg]
  · intro x hx
    simp only [List.mem_cons, List.not_mem_nil, or_false] at hx
    rcases hx with rfl | rfl | rfl | rfl | rfl | rfl | rfl | rfl | rfl | rfl | rfl | rfl | rfl | rfl | rfl | rfl | rfl | rfl | rfl | rfl | rfl | rfl | rfl | rfl | rfl | rfl <;> assumption
end
end Go.Proofs.Ytkknobonpejgbaa
