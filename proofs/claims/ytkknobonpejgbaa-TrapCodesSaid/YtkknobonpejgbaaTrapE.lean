/-
  PROCESSORS: Ready, Due, and the reference's.
-/
import Derived.Test.YtkknobonpejgbaaTrapD
namespace Go.Proofs.Ytkknobonpejgbaa
open Go.RowKit Go.ChangeShapes Go.WideShapes Go.ChangeAt

theorem and31 {p : Int} (h : Tm.isE p) : bits .and .u32 p 31 = p % 32 := by
  obtain ⟨q, rfl⟩ := Int.eq_ofNat_of_zero_le h.1
  have h2 := h.2
  rw [show (31 : Int) = ((31 : Nat) : Int) from rfl, and32 q 31 (by omega) (by omega)]
  rw [show (31 : Nat) = 2 ^ 5 - 1 from rfl, Nat.and_two_pow_sub_one_eq_mod]
  omega
theorem and7 {p : Int} (h : Tm.isE p) : bits .and .u32 p 7 = p % 8 := by
  obtain ⟨q, rfl⟩ := Int.eq_ofNat_of_zero_le h.1
  have h2 := h.2
  rw [show (7 : Int) = ((7 : Nat) : Int) from rfl, and32 q 7 (by omega) (by omega)]
  rw [show (7 : Nat) = 2 ^ 3 - 1 from rfl, Nat.and_two_pow_sub_one_eq_mod]
  omega
/-- Whether a processor steps. -/
def rdy (hl wt : Bool) (p : Int) : Bool := !hl && (!wt || !decide (p % 32 = 0))
set_option maxRecDepth 100000 in
theorem ready_any (x : Cpu) (p : Int) (w : World) (hp : Tm.isE p) : Calls Try.prog 21 #[.agg x.cells.toArray, .int .u32 p] w fun e w' => e = .returned (.bool (rdy x.hl x.wt p)) ∧ Later w w' := by
  have hb := Blk.new w 26 x.cells.toArray x.cells rfl
  have khl := hb.cell (j := 28) (v := .bool x.hl) rfl
  have kwt := hb.cell (j := 27) (v := .bool x.wt) rfl
  generalize x.hl = hl at khl ⊢
  generalize x.wt = wt at kwt ⊢
  clear hb
  have hand := and31 hp
  have hq0 : 0 ≤ p % 32 := by omega
  unfold rdy
  generalize p % 32 = q at hand hq0 ⊢
  cases hl
  · cases wt
    · go_enter Try.func21, Try.ntmps21
      go_wp2
      go_ret
      refine ⟨ret_bool ?_, later1 _ _⟩
      first | rfl | simpa using h
    · by_cases h : q = 0
      · have d1 : (q == 0) = true := by simpa using h
        have d2 : decide (0 < q) = false := decide_eq_false (by omega)
        rw [show decide (q = 0) = true from decide_eq_true h]
        go_enter Try.func21, Try.ntmps21
        go_wp2
        go_ret
        refine ⟨ret_bool ?_, later1 _ _⟩
        first | rfl | simpa using h
      · have d1 : (q == 0) = false := by simpa using h
        have d2 : decide (0 < q) = true := decide_eq_true (by omega)
        rw [show decide (q = 0) = false from decide_eq_false h]
        go_enter Try.func21, Try.ntmps21
        go_wp2
        go_ret
        refine ⟨ret_bool ?_, later1 _ _⟩
        first | rfl | simpa using h
  · go_enter Try.func21, Try.ntmps21
    go_wp2
    go_ret
    refine ⟨ret_bool ?_, later1 _ _⟩
    first | rfl | simpa using h
set_option maxRecDepth 100000 in
theorem rready_any (x : Cpu) (p : Int) (w : World) (hp : Tm.isE p) : Calls Try.prog 22 #[.agg x.cells.toArray, .int .u32 p] w fun e w' => e = .returned (.bool (rdy x.hl x.wt p)) ∧ Later w w' := by
  have hb := Blk.new w 26 x.cells.toArray x.cells rfl
  have khl := hb.cell (j := 28) (v := .bool x.hl) rfl
  have kwt := hb.cell (j := 27) (v := .bool x.wt) rfl
  generalize x.hl = hl at khl ⊢
  generalize x.wt = wt at kwt ⊢
  clear hb
  have hand : p.tmod 32 = p % 32 := Int.tmod_eq_emod_of_nonneg hp.1
  have hq0 : 0 ≤ p % 32 := by omega
  unfold rdy
  generalize p % 32 = q at hand hq0 ⊢
  cases hl
  · cases wt
    · go_enter Try.func22, Try.ntmps22
      go_wp2
      go_ret
      refine ⟨ret_bool ?_, later1 _ _⟩
      first | rfl | simpa using h
    · by_cases h : q = 0
      · have d1 : (q == 0) = true := by simpa using h
        have d2 : decide (0 < q) = false := decide_eq_false (by omega)
        rw [show decide (q = 0) = true from decide_eq_true h]
        go_enter Try.func22, Try.ntmps22
        go_wp2
        go_ret
        refine ⟨ret_bool ?_, later1 _ _⟩
        first | rfl | simpa using h
      · have d1 : (q == 0) = false := by simpa using h
        have d2 : decide (0 < q) = true := decide_eq_true (by omega)
        rw [show decide (q = 0) = false from decide_eq_false h]
        go_enter Try.func22, Try.ntmps22
        go_wp2
        go_ret
        refine ⟨ret_bool ?_, later1 _ _⟩
        first | rfl | simpa using h
  · go_enter Try.func22, Try.ntmps22
    go_wp2
    go_ret
    refine ⟨ret_bool ?_, later1 _ _⟩
    first | rfl | simpa using h
/-- The bit k of a word. -/
def bitK (p : Int) (k : Nat) : Bool := decide (p / 2 ^ k % 2 = 1)
/-- The least of five lines that is pending; 5 if none is. -/
def least (p : Int) : Nat := if bitK p 0 then 0 else if bitK p 1 then 1 else if bitK p 2 then 2 else if bitK p 3 then 3 else if bitK p 4 then 4 else 5
theorem least_is (p : Int) : least p ≤ 5 ∧ (∀ j, j < least p → bitK p j = false) ∧ (least p < 5 → bitK p (least p) = true) := by
  unfold least
  cases h0 : bitK p 0
  · cases h1 : bitK p 1
    · cases h2 : bitK p 2
      · cases h3 : bitK p 3
        · cases h4 : bitK p 4
          · simp only [Bool.false_eq_true, if_false]
            refine ⟨by omega, fun j hj => ?_, fun h => by omega⟩
            rcases (show j = 0 ∨ j = 1 ∨ j = 2 ∨ j = 3 ∨ j = 4 by omega) with rfl | rfl | rfl | rfl | rfl <;> assumption
          · simp only [Bool.false_eq_true, if_false, if_true]
            refine ⟨by omega, fun j hj => ?_, fun _ => h4⟩
            rcases (show j = 0 ∨ j = 1 ∨ j = 2 ∨ j = 3 by omega) with rfl | rfl | rfl | rfl <;> assumption
        · simp only [Bool.false_eq_true, if_false, if_true]
          refine ⟨by omega, fun j hj => ?_, fun _ => h3⟩
          rcases (show j = 0 ∨ j = 1 ∨ j = 2 by omega) with rfl | rfl | rfl <;> assumption
      · simp only [Bool.false_eq_true, if_false, if_true]
        refine ⟨by omega, fun j hj => ?_, fun _ => h2⟩
        rcases (show j = 0 ∨ j = 1 by omega) with rfl | rfl <;> assumption
    · simp only [Bool.false_eq_true, if_false, if_true]
      refine ⟨by omega, fun j hj => ?_, fun _ => h1⟩
      obtain rfl : j = 0 := by omega
      assumption
  · simp only [if_true]
    exact ⟨by omega, fun j hj => by omega, fun _ => h0⟩
theorem bit_k {p : Int} (k : Nat) (h : Tm.isE p) : (bits .and .u32 (p / 2 ^ k) 1 == 1) = bitK p k := bit0 (shr_e k h)
/-- What is due. -/
def dueN (on : Bool) (p : Int) : Int := if on && decide (least p < 5) then least p else 0
def dueB (on : Bool) (p : Int) : Bool := on && decide (least p < 5)
set_option maxRecDepth 100000 in
theorem due_any (x : Cpu) (p : Int) (w : World) (hx : Tm.isE x.c5) (hp : Tm.isE p) : Calls Try.prog 15 #[.agg x.cells.toArray, .int .u32 p] w fun e w' => e = .returned (.tuple #[.int .i64 (dueN (Tm.has x.c5 1) p), .bool (dueB (Tm.has x.c5 1) p)]) ∧ Later w w' := by
  have HH := Lib.hid fun w' => has_bit x 0 1 rfl (by omega) hx w'
  have b4 := Blk.new w 26 x.cells.toArray x.cells rfl
  have lw := later1 w (.cells x.cells.toArray 26)
  have hl := least_is p
  obtain ⟨N, hN⟩ : ∃ N, N = dueN (Tm.has x.c5 1) p := ⟨_, rfl⟩
  obtain ⟨D, hD⟩ : ∃ N, N = dueB (Tm.has x.c5 1) p := ⟨_, rfl⟩
  rw [← hN, ← hD]
  unfold dueN at hN
  unfold dueB at hD
  obtain ⟨L, hL⟩ : ∃ L, L = least p := ⟨_, rfl⟩
  rw [← hL] at hl hN hD
  obtain ⟨h5, hlt, hat⟩ := hl
  have hbk := fun k => bit_k (p := p) k hp
  obtain ⟨on, hon⟩ : ∃ s, s = Tm.has x.c5 1 := ⟨_, rfl⟩
  rw [← hon] at HH hN hD
  have HN := Lib.hid hN
  have HD := Lib.hid hD
  clear hon hL hx hp hN hD
  cases on
  · clear hbk hlt hat h5
    go_enter Try.func15, Try.ntmps15
    go_wp2_with (first
      | ((with_reducible refine wpList_load_blk (o := ⟨some 7, .load 26 (.tmp 2), _, _, _, none⟩) rfl _ _ rfl w.heap.size 26 x.cells _ ?_ ?_ Try.underlying26 rfl (cpu_sz _) ?_); rfl; exact b4)
      | (go_at_call 31; refine (HH.out _).mono ?_; rintro e w1 ⟨rfl, l1⟩))
    go_ret2
    exact ⟨by rw [HN.out, HD.out]; rfl, Later.trans_ lw l1⟩
  · 
    go_enter Try.func15, Try.ntmps15
    go_wp2_with (first
      | ((with_reducible refine wpList_load_blk (o := ⟨some 7, .load 26 (.tmp 2), _, _, _, none⟩) rfl _ _ rfl w.heap.size 26 x.cells _ ?_ ?_ Try.underlying26 rfl (cpu_sz _) ?_); rfl; exact b4)
      | (go_at_call 31; refine (HH.out _).mono ?_; rintro e w1 ⟨rfl, l1⟩))
    replace lw := Later.trans_ lw l1
    clear b4 HH
    go_loopw [10] (fun i wr => ∃ k : Nat, k ≤ L ∧ i = .int .i64 k ∧ w1 = wr) (fun i _ => 5 - (intOf i).toNat)
    case atStart => exact ⟨0, by omega, rfl, rfl⟩
    case round =>
      rename_i wr
      obtain ⟨k, hk, rfl, rfl⟩ := hrel
      have hb := hbk k
      clear hbk
      by_cases e : k = L
      · subst e
        by_cases h : k < 5
        · have hN := HN.out
          have hD := HD.out
          rw [decide_eq_true h, Bool.true_and, if_pos rfl] at hN
          rw [decide_eq_true h, Bool.true_and] at hD
          subst hN hD
          rw [hat h] at hb
          clear hat hlt
          go_wp2
          go_ret2
          exact ⟨rfl, lw⟩
        · have hN := HN.out
          have hD := HD.out
          rw [decide_eq_false h, Bool.true_and, if_neg Bool.false_ne_true] at hN
          rw [decide_eq_false h, Bool.true_and] at hD
          subst hN hD
          obtain rfl : k = 5 := by omega
          clear hat hlt hb
          go_wp2
          go_ret2
          exact ⟨rfl, lw⟩
      · rw [hlt k (by omega)] at hb
        have h1 : (k : Int) < 5 := by omega
        clear hat hlt
        go_wp2
        go_roundw
        case rel => exact ⟨k + 1, by omega, by go_num, trivial⟩
        case measure => simp [intOf]; omega
theorem line_sz (a b : Value) : (Try.prog.info? 33).map (·.size) = some [a, b].length := by
  show _ = some 2
  kernel_rfl
theorem line_one (a : Int) (b : Bool) : ∀ v ∈ [Value.int .i64 a, .bool b], v.oneCell' = true := by
  intro v hv
  simp only [List.mem_cons, List.not_mem_nil, or_false] at hv
  rcases hv with rfl | rfl <;> rfl
set_option maxRecDepth 100000 in
theorem rdue_any (x : Cpu) (p : Int) (w : World) (hx : Tm.isE x.c5) (hp : Tm.isE p) : Calls Try.prog 16 #[.agg x.cells.toArray, .int .u32 p] w fun e w' => e = .returned (.agg #[.int .i64 (dueN (Tm.has x.c5 1) p), .bool (dueB (Tm.has x.c5 1) p)]) ∧ Later w w' := by
  have HH0 : ∀ w' : World, Calls Try.prog 32 #[.int .u32 x.c5, .int .i64 0] w' fun e w'' => e = .returned (.bool (Tm.has x.c5 1)) ∧ w' = w'' := fun w' => rset_any x.c5 1 0 w' rfl hx (by omega)
  have HH := Lib.hid HH0
  clear HH0
  have HP := Lib.hid fun (k : Nat) w' hk => rset_any p _ k w' rfl hp hk
  have b4 := (Blk.new w 26 x.cells.toArray x.cells rfl).alloc (.cells #[.int .i64 0, .bool false] 33)
  have b8 := Blk.new' (w.alloc (.cells x.cells.toArray 26)) (w.heap.size + 1) 33 #[.int .i64 0, .bool false] [.int .i64 0, .bool false] (by simp) rfl
  have lw := (later1 w (.cells x.cells.toArray 26)).alloc (by simp) (.cells #[.int .i64 0, .bool false] 33)
  have k5 := b4.cell (j := 22) (v := .int .u32 x.c5) rfl
  have hl := least_is p
  obtain ⟨N, hN⟩ : ∃ N, N = dueN (Tm.has x.c5 1) p := ⟨_, rfl⟩
  obtain ⟨D, hD⟩ : ∃ N, N = dueB (Tm.has x.c5 1) p := ⟨_, rfl⟩
  rw [← hN, ← hD]
  unfold dueN at hN
  unfold dueB at hD
  obtain ⟨L, hL⟩ : ∃ L, L = least p := ⟨_, rfl⟩
  rw [← hL] at hl hN hD
  obtain ⟨h5, hlt, hat⟩ := hl
  have hbk := fun k => bit_k (p := p) k hp
  obtain ⟨on, hon⟩ : ∃ s, s = Tm.has x.c5 1 := ⟨_, rfl⟩
  rw [← hon] at HH hN hD
  have HN := Lib.hid hN
  have HD := Lib.hid hD
  clear hon hL hx hp hN hD
  go_enter Try.func16, Try.ntmps16
  go_wp2_with (go_at_call 32; refine (HH.out _).mono ?_; rintro e w1 ⟨rfl, rfl⟩)
  obtain ⟨u0, hu⟩ : ∃ u0, (w.alloc (.cells x.cells.toArray 26)).alloc (.cells #[.int .i64 0, .bool false] 33) = u0 := ⟨_, rfl⟩
  rw [hu] at b4 b8 lw ⊢
  clear hu k5 HH b4
  go_loopw [6] (fun i wr => ∃ k : Nat, k ≤ L ∧ i = .int .i64 k ∧ u0 = wr) (fun i _ => 5 - (intOf i).toNat)
  case atStart => exact ⟨0, by omega, rfl, rfl⟩
  case round =>
    rename_i wr
    obtain ⟨k, hk, rfl, rfl⟩ := hrel
    cases on
    · have hN := HN.out
      have hD := HD.out
      rw [Bool.false_and, if_neg Bool.false_ne_true] at hN
      rw [Bool.false_and] at hD
      subst hN hD
      clear hbk hlt hat h5 HP hk
      go_wp2_with ((with_reducible refine wpList_store_abs (o := ⟨none, .store 33 (.tmp 4) (.tmp 25), _, _, _, none⟩) rfl _ _ _ rfl (w.heap.size + 1) 33 [.int .i64 0, .bool false] [.int .i64 0, .bool false] ?_ ?_ b8 ?_ ?_ ?_ ?_); rfl; rfl; exact line_sz _ _; rfl; exact line_one _ _; intro w9 b9 o9)
      all_goals exact bodyPost_ret (v := .agg #[.int .i64 0, .bool false]) (results_blk Try.results16 _ _ (w.heap.size + 1) 33 [.int .i64 0, .bool false] _ rfl b9 Try.underlying33 rfl (by show _ = some 2; kernel_rfl)) rfl ⟨rfl, Below.only lw o9 (by omega)⟩
    · by_cases e : k = L
      · subst e
        by_cases h : k < 5
        · have hN := HN.out
          have hD := HD.out
          rw [decide_eq_true h, Bool.true_and, if_pos rfl] at hN
          rw [decide_eq_true h, Bool.true_and] at hD
          subst hN hD
          have HQ := Lib.hid fun w' => HP.out k w' h
          have hb := hbk k
          rw [hat h] at hb
          have hb2 : Tm.has p ((2 ^ k : Nat) : Int) = true := by rw [← hat h]; unfold Tm.has bitK; rw [Int.natCast_pow]; rfl
          rw [hb2] at HQ
          clear hat hlt HP hb hb2 hbk
          go_wp2_with (first
            | (go_at_call 32; refine (HQ.out _).mono ?_; rintro e w1 ⟨rfl, rfl⟩)
            | ((with_reducible refine wpList_store_abs (o := ⟨none, .store 33 (.tmp 4) (.tmp 24), _, _, _, none⟩) rfl _ _ _ rfl (w.heap.size + 1) 33 [.int .i64 0, .bool false] [.int .i64 (k : Int), .bool true] ?_ ?_ b8 ?_ ?_ ?_ ?_); rfl; rfl; exact line_sz _ _; rfl; exact line_one _ _; intro w9 b9 o9))
          exact bodyPost_ret (v := .agg #[.int .i64 (k : Int), .bool true]) (results_blk Try.results16 _ _ (w.heap.size + 1) 33 [.int .i64 (k : Int), .bool true] _ rfl b9 Try.underlying33 rfl (by show _ = some 2; kernel_rfl)) rfl ⟨rfl, Below.only lw o9 (by omega)⟩
        · have hN := HN.out
          have hD := HD.out
          rw [decide_eq_false h, Bool.true_and, if_neg Bool.false_ne_true] at hN
          rw [decide_eq_false h, Bool.true_and] at hD
          subst hN hD
          obtain rfl : k = 5 := by omega
          clear hat hlt HP hbk
          go_wp2_with ((with_reducible refine wpList_store_abs (o := ⟨none, .store 33 (.tmp 4) (.tmp 25), _, _, _, none⟩) rfl _ _ _ rfl (w.heap.size + 1) 33 [.int .i64 0, .bool false] [.int .i64 0, .bool false] ?_ ?_ b8 ?_ ?_ ?_ ?_); rfl; rfl; exact line_sz _ _; rfl; exact line_one _ _; intro w9 b9 o9)
          exact bodyPost_ret (v := .agg #[.int .i64 0, .bool false]) (results_blk Try.results16 _ _ (w.heap.size + 1) 33 [.int .i64 0, .bool false] _ rfl b9 Try.underlying33 rfl (by show _ = some 2; kernel_rfl)) rfl ⟨rfl, Below.only lw o9 (by omega)⟩
      · have HQ := Lib.hid fun w' => HP.out k w' (by omega)
        have hb2 : Tm.has p ((2 ^ k : Nat) : Int) = false := by rw [← hlt k (by omega)]; unfold Tm.has bitK; rw [Int.natCast_pow]; rfl
        rw [hb2] at HQ
        have h1 : (k : Int) < 5 := by omega
        clear hat hlt HP hb2 hbk
        go_wp2_with (go_at_call 32; refine (HQ.out _).mono ?_; rintro e w1 ⟨rfl, rfl⟩)
        go_roundw
        case rel => exact ⟨k + 1, by omega, by go_num, trivial⟩
        case measure => simp [intOf]; omega
end Go.Proofs.Ytkknobonpejgbaa
