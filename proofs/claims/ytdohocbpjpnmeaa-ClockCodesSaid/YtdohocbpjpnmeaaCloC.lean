/-
  A CLOCK: laws for stores and slice literals; upTo, isTime, isCount, isCPU, first, isOffered, Next.
-/
import Derived.Test.YtdohocbpjpnmeaaCloB
import Derived.Deep.RegionHeld
import Derived.Great.BuildSlice
namespace Go.Proofs.Ytdohocbpjpnmeaa
open Go.RowKit Go.ChangeShapes Go.WideShapes Go.ChangeAt

theorem wp_set1 {P : Program} {o : Oper} {a : Act} {w : World} {K : Act → World → Prop} {Q : Exit → Act → World → Prop} (ty : TypeId) (x y : Operand) (ho : o.op = .store ty x y) (hdn : o.dst = none)
    (g off : Nat) (t : TypeId) (cs : List Value) (v : Value) (hx : a.eval x = .pointer (some ⟨g, off, none⟩)) (hy : a.eval y = v) (hg : Blk w g t cs)
    (hi : (P.info? ty).map (·.size) = some 1) (hof : off < cs.length) (h1 : v.oneCell' = true)
    (h : ∀ w', Blk w' g t (cs.set off v) → Only g w w' → K a w') : o.wp P a w K Q := by
  have hc : v.cells = #[v] := by cases v <;> first | rfl | cases h1
  have h2 : (store ⟨g, off, none⟩ v).run P w = .ok () (w.setCell ⟨g, off, none⟩ v) := by
    rw [run_store P w _ v _ h1, hg.cell (List.getElem?_eq_getElem hof), hg.frz off]; rfl
  have hst : (storeVar ty ⟨g, off, none⟩ v).run P w = .ok () (w.setCell ⟨g, off, none⟩ v) := by
    cases hq : P.info? ty with
    | none => simp [hq] at hi
    | some i =>
      have hs : i.size = 1 := by simpa [hq] using hi
      simp [storeVar, sizeOf, typeInfo, hq, hc, hs, storeCells, Addr.add, h2]
  unfold Oper.wp execOp
  simp only [ho, hx, hy, Instr.storeAt, Instr.sureAddr, Sem.run_bind, Sem.run_pure, Result.andThen_ok, hst]
  show K (a.put o.dst undef) _
  rw [hdn]
  exact h _ (hg.set off v) (Only.set _ _ _ _)
theorem wpList_set1 {P : Program} {ops : Array Oper} {rest : List Oper} {o : Oper} {a : Act} {w : World} {Q : Exit → Act → World → Prop} (hgd : o.guard = none) (ty : TypeId) (x y : Operand) (ho : o.op = .store ty x y) (hdn : o.dst = none)
    (g off : Nat) (t : TypeId) (cs : List Value) (v : Value) (hx : a.eval x = .pointer (some ⟨g, off, none⟩)) (hy : a.eval y = v) (hg : Blk w g t cs)
    (hi : (P.info? ty).map (·.size) = some 1) (hof : off < cs.length) (h1 : v.oneCell' = true)
    (h : ∀ w', Blk w' g t (cs.set off v) → Only g w w' → wpList P ops Q rest a w') : wpList P ops Q (o :: rest) a w :=
  wpList_plain hgd fun _ hK => wp_set1 ty x y ho hdn g off t cs v hx hy hg hi hof h1 fun w' h2 h3 => hK _ _ (h w' h2 h3)
theorem wp_store_blk {P : Program} {o : Oper} {a : Act} {w : World} {K : Act → World → Prop} {Q : Exit → Act → World → Prop} (ty : TypeId) (x y : Operand) (ho : o.op = .store ty x y)
    (g : Nat) (t : TypeId) (old cs : List Value) (hx : a.eval x = .pointer (some ⟨g, 0, none⟩)) (hy : a.eval y = .agg cs.toArray) (hg : Blk w g t old)
    (hi : (P.info? ty).map (·.size) = some cs.length) (hold : old.length = cs.length) (h1 : ∀ v ∈ cs, v.oneCell' = true)
    (h : ∀ w', Blk w' g t cs → Only g w w' → K (a.put o.dst undef) w') : o.wp P a w K Q :=
  wp_store_row ty x y ho g cs.toArray hx hy t old.toArray hg (by rw [List.size_toArray]; exact hi) (by simpa using hold) (all_oneCell_toArray h1) (h _ (hg.row cs) (Only.row _ _ _))
theorem wp_bs {P : Program} {o : Oper} {a : Act} {w w' : World} {K : Act → World → Prop} {Q : Exit → Act → World → Prop} (t : TypeId) (n : Nat) (fs : Array (Nat × Operand)) (vs : Array (Nat × Value)) (V : Value) (ho : o.op = .buildSlice t n fs)
    (hv : fs.toList.map (fun x => (x.1, a.eval x.2)) = vs.toList) (hr : (Instr.buildSlice t n vs).run P w = .ok V w')
    (h : K (a.put o.dst V) w') : o.wp P a w K Q := by
  have e : fs.map (fun x => (x.1, a.eval x.2)) = vs := by
    apply Array.toList_inj.1; rw [Array.toList_map]; exact hv
  unfold Oper.wp execOp
  simp only [ho, e, Sem.run_bind, hr, Sem.run_pure, Result.andThen_ok]
  exact h
theorem wpList_bs {P : Program} {ops : Array Oper} {rest : List Oper} {o : Oper} {a : Act} {w w' : World} {Q : Exit → Act → World → Prop} (hgd : o.guard = none) (t : TypeId) (n : Nat) (fs : Array (Nat × Operand)) (vs : Array (Nat × Value)) (V : Value) (ho : o.op = .buildSlice t n fs)
    (hv : fs.toList.map (fun x => (x.1, a.eval x.2)) = vs.toList) (hr : (Instr.buildSlice t n vs).run P w = .ok V w')
    (h : wpList P ops Q rest (a.put o.dst V) w') : wpList P ops Q (o :: rest) a w :=
  wpList_plain hgd fun _ hK => wp_bs t n fs vs V ho hv hr (hK _ _ h)
theorem yieldsIf_build {ops : Array Oper} {S : World → Prop} {op : Oper} {a : Act} (hw : Region.wanted op (yielded ops a.tmps) = true) (t : TypeId) (fs : Array (Nat × Operand)) (vs : Array (Nat × Value)) (C : Array Value) (ho : op.op = .build t fs)
    (hv : fs.toList.map (fun x => (x.1, a.eval x.2)) = vs.toList) (hr : ∀ w, (Instr.build t vs).run Try.prog w = .ok (.agg C) w) : YieldsIf Try.prog ops S op (.agg C) a :=
  .inl ⟨hw, fun w _ => by
    have e : fs.map (fun x => (x.1, a.eval x.2)) = vs := by
      apply Array.toList_inj.1; rw [Array.toList_map]; exact hv
    unfold execOp
    simp only [ho, e, Sem.run_bind, hr, Sem.run_pure, Result.andThen_ok]⟩
theorem i_sz : (Try.prog.info? 3).map (·.size) = some 1 := by kernel_rfl
theorem b_sz : (Try.prog.info? 4).map (·.size) = some 1 := by kernel_rfl
theorem flt_sz (b : Bool) (e : Int) : (Try.prog.info? 66).map (·.size) = some [Value.bool b, .int .i64 e].length := by
  show _ = some 2
  kernel_rfl
theorem run_build' (w : World) (t : TypeId) (vs : Array (Nat × Value)) (C : Array Value) (h : Try.prog.built t vs.toList = some C) : (Instr.build t vs).run Try.prog w = .ok (.agg C) w := run_build w t vs C h
theorem built_flt (b : Bool) (e : Int) : Try.prog.built 66 [(0, .bool b), (1, .int .i64 e)] = some #[.bool b, .int .i64 e] := by kernel_rfl
theorem run_flt (b : Bool) (e : Int) (w : World) : (Instr.build 66 #[(0, .bool b), (1, .int .i64 e)]).run Try.prog w = .ok (.agg #[.bool b, .int .i64 e]) w := run_build w _ _ _ (built_flt b e)
theorem flt_info : ∃ ie, Try.prog.info? 66 = some ie ∧ ie.size = 2 ∧ ie.zero = some (.agg #[.bool false, .int .i64 0]) := by
  obtain ⟨ie, h⟩ := Option.isSome_iff_exists.1 (show (Try.prog.info? 66).isSome = true by kernel_rfl)
  have h2 : (Try.prog.info? 66).map (·.size) = some 2 := by kernel_rfl
  have h3 : (Try.prog.info? 66).bind (·.zero) = some (.agg #[.bool false, .int .i64 0]) := by kernel_rfl
  rw [h] at h2 h3
  exact ⟨ie, h, by simpa using h2, by simpa using h3⟩
def fv (b : Bool) (e : Int) : Value := .agg #[.bool b, .int .i64 e]
theorem run_bs2 (b0 b1 : Bool) (e0 e1 : Int) (w : World) : (Instr.buildSlice 74 2 #[(0, fv b0 e0), (1, fv b1 e1)]).run Try.prog w = .ok (.slice (some ⟨w.heap.size, 0, none⟩) 2 2) (w.alloc (.cells (faultC [(b0, e0), (b1, e1)]).toArray 66)) := by
  obtain ⟨ie, h1, h2, h3⟩ := flt_info
  refine run_buildSlice w _ _ 2 _ _ ie _ Try.underlying74 h1 h3 (by rw [h2]; decide) (by rw [h2]; decide) ?_
  rw [h2]
  kernel_rfl
theorem run_bs4 (b0 b1 b2 b3 : Bool) (e0 e1 e2 e3 : Int) (w : World) : (Instr.buildSlice 74 4 #[(0, fv b0 e0), (1, fv b1 e1), (2, fv b2 e2), (3, fv b3 e3)]).run Try.prog w = .ok (.slice (some ⟨w.heap.size, 0, none⟩) 4 4) (w.alloc (.cells (faultC [(b0, e0), (b1, e1), (b2, e2), (b3, e3)]).toArray 66)) := by
  obtain ⟨ie, h1, h2, h3⟩ := flt_info
  refine run_buildSlice w _ _ 4 _ _ ie _ Try.underlying74 h1 h3 (by rw [h2]; decide) (by rw [h2]; decide) ?_
  rw [h2]
  kernel_rfl
theorem upTo_any (n m : Int) (w : World) : Calls Try.prog 30 #[.int .i64 n, .int .i64 m] w fun e w' => e = .returned (.bool (decide (0 ≤ n ∧ n ≤ m))) ∧ w = w' := by
  by_cases h0 : 0 ≤ n
  · by_cases h1 : n ≤ m
    · rw [decide_eq_true ⟨h0, h1⟩]
      go_enter Try.func30, Try.ntmps30
      go_wp2
      go_ret
      exact ⟨rfl, rfl⟩
    · rw [decide_eq_false (by omega)]
      have d1 : decide (n ≤ m) = false := decide_eq_false h1
      go_enter Try.func30, Try.ntmps30
      go_wp2
      go_ret
      exact ⟨rfl, rfl⟩
  · rw [decide_eq_false (by omega)]
    have d0 : decide (0 ≤ n) = false := decide_eq_false h0
    go_enter Try.func30, Try.ntmps30
    go_wp2
    go_ret
    exact ⟨rfl, rfl⟩
theorem isTime_any (n : Int) (w : World) : Calls Try.prog 29 #[.int .i64 n] w fun e w' => e = .returned (.bool (isT n)) ∧ w = w' := by
  have KU := Lib.hid fun w' => upTo_any n 2147483647 w'
  rw [show decide (0 ≤ n ∧ n ≤ 2147483647) = isT n from rfl] at KU
  go_enter Try.func29, Try.ntmps29
  go_wp2_with (go_at_call 30; (with_reducible refine (KU.out _).mono ?_); rintro e w1 ⟨rfl, rfl⟩)
  go_ret
  exact ⟨rfl, rfl⟩
theorem isCount_any (n : Int) (w : World) : Calls Try.prog 31 #[.int .i64 n] w fun e w' => e = .returned (.bool (isN n)) ∧ w = w' := by
  have KU := Lib.hid fun w' => upTo_any n 1099511627776 w'
  rw [show decide (0 ≤ n ∧ n ≤ 1099511627776) = isN n from rfl] at KU
  go_enter Try.func31, Try.ntmps31
  go_wp2_with (go_at_call 30; (with_reducible refine (KU.out _).mono ?_); rintro e w1 ⟨rfl, rfl⟩)
  go_ret
  exact ⟨rfl, rfl⟩
theorem isCPU_any (n : Int) (w : World) : Calls Try.prog 33 #[.int .i64 n] w fun e w' => e = .returned (.bool (isC n)) ∧ w = w' := by
  have KU := Lib.hid fun w' => upTo_any n 3 w'
  rw [show decide (0 ≤ n ∧ n ≤ 3) = isC n from rfl] at KU
  go_enter Try.func33, Try.ntmps33
  go_wp2_with (go_at_call 30; (with_reducible refine (KU.out _).mono ?_); rintro e w1 ⟨rfl, rfl⟩)
  go_ret
  exact ⟨rfl, rfl⟩
theorem is_any (n : Int) (w : World) : Calls Try.prog 35 #[.int .i64 n] w fun e w' => e = .returned (.bool (isC n)) ∧ w = w' := by
  unfold isC
  by_cases h0 : 0 ≤ n
  · by_cases h1 : n ≤ 3
    · rw [decide_eq_true ⟨h0, h1⟩]
      go_enter Try.func35, Try.ntmps35
      go_wp2
      go_ret
      exact ⟨rfl, rfl⟩
    · rw [decide_eq_false (by omega)]
      have d1 : decide (n ≤ 3) = false := decide_eq_false h1
      go_enter Try.func35, Try.ntmps35
      go_wp2
      go_ret
      exact ⟨rfl, rfl⟩
  · rw [decide_eq_false (by omega)]
    have d0 : decide (0 ≤ n) = false := decide_eq_false h0
    go_enter Try.func35, Try.ntmps35
    go_wp2
    go_ret
    exact ⟨rfl, rfl⟩
theorem isOffered_any (x : Clk) (c : Int) (w : World) : Calls Try.prog 34 #[.agg x.cells.toArray, .int .i64 c] w fun e w' => e = .returned (.bool (x.off c)) ∧ Later w w' := by
  have KC := Lib.hid fun w' => isCPU_any c w'
  cases hc : isC c with
  | true =>
    rw [hc] at KC
    obtain ⟨k, rfl, hk⟩ := isC_open hc
    rw [off_nat x hk]
    have e1 := (Blk.new w 25 x.cells.toArray x.cells rfl).cell (clk_o x hk)
    have hk4 : (k : Int) < 4 := by omega
    have hk0 : (0 : Int) ≤ k := by omega
    clear hc
    generalize x.o k = v at e1 ⊢
    go_enter Try.func34, Try.ntmps34
    go_wp2_with (go_at_call 33; (with_reducible refine (KC.out _).mono ?_); rintro e w1 ⟨rfl, rfl⟩)
    go_ret
    exact ⟨rfl, later1 _ _⟩
  | false =>
    rw [hc] at KC
    rw [off_not x hc]
    clear hc
    go_enter Try.func34, Try.ntmps34
    go_wp2_with (go_at_call 33; (with_reducible refine (KC.out _).mono ?_); rintro e w1 ⟨rfl, rfl⟩)
    go_ret
    exact ⟨rfl, later1 _ _⟩
theorem next_any (x : Clk) (c : Int) (w : World) : Calls Try.prog 21 #[.agg x.cells.toArray, .int .i64 c] w fun e w' => e = .returned (.int .i64 (x.next c)) ∧ Later w w' := by
  have KC := Lib.hid fun w' => isCPU_any c w'
  unfold Clk.next
  cases hc : isC c with
  | true =>
    rw [hc] at KC
    rw [if_pos rfl]
    obtain ⟨k, rfl, hk⟩ := isC_open hc
    rw [Int.toNat_natCast]
    have e1 := (Blk.new w 25 x.cells.toArray x.cells rfl).cell (clk_a x hk)
    have hk4 : (k : Int) < 4 := by omega
    have hk0 : (0 : Int) ≤ k := by omega
    clear hc
    generalize x.a k = v at e1 ⊢
    go_enter Try.func21, Try.ntmps21
    go_wp2_with (go_at_call 33; (with_reducible refine (KC.out _).mono ?_); rintro e w1 ⟨rfl, rfl⟩)
    go_ret
    exact ⟨rfl, later1 _ _⟩
  | false =>
    rw [hc] at KC
    rw [if_neg (by decide)]
    clear hc
    go_enter Try.func21, Try.ntmps21
    go_wp2_with (go_at_call 33; (with_reducible refine (KC.out _).mono ?_); rintro e w1 ⟨rfl, rfl⟩)
    go_ret
    exact ⟨rfl, later1 _ _⟩
theorem rnext_any (x : Clk) (c : Int) (w : World) : Calls Try.prog 22 #[.agg x.cells.toArray, .int .i64 c] w fun e w' => e = .returned (.int .i64 (x.next c)) ∧ Later w w' := by
  have KC := Lib.hid fun w' => is_any c w'
  unfold Clk.next
  cases hc : isC c with
  | true =>
    rw [hc] at KC
    rw [if_pos rfl]
    obtain ⟨k, rfl, hk⟩ := isC_open hc
    rw [Int.toNat_natCast]
    have e1 := (Blk.new w 25 x.cells.toArray x.cells rfl).cell (clk_a x hk)
    have hk4 : (k : Int) < 4 := by omega
    have hk0 : (0 : Int) ≤ k := by omega
    clear hc
    generalize x.a k = v at e1 ⊢
    go_enter Try.func22, Try.ntmps22
    go_wp2_with (go_at_call 35; (with_reducible refine (KC.out _).mono ?_); rintro e w1 ⟨rfl, rfl⟩)
    go_ret
    exact ⟨rfl, later1 _ _⟩
  | false =>
    rw [hc] at KC
    rw [if_neg (by decide)]
    clear hc
    go_enter Try.func22, Try.ntmps22
    go_wp2_with (go_at_call 35; (with_reducible refine (KC.out _).mono ?_); rintro e w1 ⟨rfl, rfl⟩)
    go_ret
    exact ⟨rfl, later1 _ _⟩
set_option maxRecDepth 100000 in
set_option maxHeartbeats 1000000 in
theorem first_any (L : List (Bool × Int)) (n B : Nat) (w : World) (hl : L.length = n) (hn : n ≤ 4) (hb : Blk w B 66 (faultC L)) : Calls Try.prog 32 #[.slice (some ⟨B, 0, none⟩) n n] w fun e w' => e = .returned (.int .i64 (firstE L)) ∧ Later w w' := by
  have HL := Lib.hid hl
  have hFL := faultC_len L
  rw [hl] at hFL
  replace hFL := Lib.hid hFL
  have lw := later0 w
  clear hl
  go_enter Try.func32, Try.ntmps32
  go_wp2
  go_loopw [7] (fun i wr => ∃ k : Nat, k ≤ n ∧ i = .int .i64 k ∧ Hid (firstE L = firstE (L.drop k)) ∧ Blk wr B 66 (faultC L) ∧ Later w wr) (fun i _ => n - (intOf i).toNat)
  case atStart => exact ⟨0, by omega, rfl, rfl, hb, lw⟩
  case round =>
    clear hb lw
    obtain ⟨k, hk, rfl, HF, b1, lw⟩ := hrel
    by_cases hlt : k < n
    · have hkn : (k : Int) < (n : Int) := by omega
      have hk0 : (0 : Int) ≤ k := by omega
      obtain ⟨⟨b, ee⟩, hget⟩ : ∃ p, L[k]? = some p := ⟨L[k]'(by rw [HL.out]; exact hlt), List.getElem?_eq_getElem _⟩
      have HC := Lib.hid (faultC_at L k b ee hget)
      cases b with
      | true =>
        have HD := Lib.hid (show firstE (L.drop k) = ee from firstE_drop L k true ee hget)
        clear hget
        go_wp2_with ((with_reducible refine wpList_load_at (o := ⟨some 10, .load 66 (.tmp 9), _, _, _, none⟩) rfl _ _ rfl B (k * 2) 2 66 (faultC L) [.bool true, .int .i64 ee] _ ?_ ?_ HC.out Try.underlying66 rfl (flt_sz _ _) ?_); rfl; exact b1)
        go_ret
        exact ⟨by rw [HF.out, HD.out]; rfl, lw.alloc lw.size _⟩
      | false =>
        have HD := Lib.hid (show firstE (L.drop k) = firstE (L.drop (k + 1)) from firstE_drop L k false ee hget)
        clear hget
        go_wp2_with ((with_reducible refine wpList_load_at (o := ⟨some 10, .load 66 (.tmp 9), _, _, _, none⟩) rfl _ _ rfl B (k * 2) 2 66 (faultC L) [.bool false, .int .i64 ee] _ ?_ ?_ HC.out Try.underlying66 rfl (flt_sz _ _) ?_); rfl; exact b1)
        go_roundw
        case rel => exact ⟨k + 1, by omega, by go_num, HF.out.trans HD.out, b1.alloc _, lw.alloc lw.size _⟩
        case measure => simp [intOf]; omega
    · obtain rfl : k = n := by omega
      have hz : firstE (L.drop k) = 0 := by rw [List.drop_eq_nil_of_le (by rw [HL.out]; exact Nat.le_refl _)]; rfl
      replace hz := Lib.hid hz
      clear hlt hk
      go_wp2
      go_ret
      exact ⟨by rw [HF.out, hz.out]; rfl, lw⟩
end Go.Proofs.Ytdohocbpjpnmeaa
