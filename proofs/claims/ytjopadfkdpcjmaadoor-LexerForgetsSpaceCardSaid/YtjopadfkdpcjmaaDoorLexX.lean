/-
  THE WALK OF the reference's Right.
-/
import Derived.Test.YtjopadfkdpcjmaaDoorLexS
import Derived.Test.YtjopadfkdpcjmaaDoorLexJ
import Derived.Lib.QuietBelow
namespace Go.Proofs.YtjopadfkdpcjmaaDoor
open Go.RowKit Go.ChangeShapes Go.WideShapes Go.ChangeAt

theorem reM {f : FuncId} {args : Array Value} {w : World} {v : Value} (h : ∀ w', Calls Tryd.prog f args w' fun e w'' => e = .returned v ∧ w'' = w') (d : Nat) (os : Array Obj) :
    Calls Tryd.prog f args (Sort.grow (redrawn w d) os) fun e w'' => e = .returned v ∧ ∃ p : Regrown, w'' = Sort.grow (redrawn w p.d) p.os := by
  refine (h _).mono ?_
  rintro e w'' ⟨rfl, rfl⟩
  exact ⟨rfl, ⟨d, os⟩, rfl⟩
theorem word_len (l : Lx.Str) : ((Lx.word l).length = l.length) ↔ Lx.word l = l := by
  constructor
  · intro h
    exact List.IsPrefix.eq_of_length (List.takeWhile_prefix _) h
  · intro h; rw [h]
set_option maxRecDepth 100000 in
set_option maxHeartbeats 4000000 in
theorem rr1n (ta tn : Int) (s : ByteArray) (w : World) (hn : tn ≠ 0) :
    Calls Tryd.prog 17 #[.agg #[.int .i64 1, .int .i64 ta, .int .i64 tn, .string s]] w fun e w' => e = .returned (.bool false) ∧ Later w w' := by
  have n0 : (tn != 0) = true := bne_iff_ne.2 hn
  have n1 : (tn == 0) = false := beq_eq_false_iff_ne.2 hn
  go_enter Tryd.func17, Tryd.ntmps17
  go_wp2
  go_ret
  exact ⟨rfl, later1 _ _⟩
set_option maxRecDepth 100000 in
set_option maxHeartbeats 4000000 in
theorem rr3n (ta tn : Int) (s : ByteArray) (w : World) (hn : tn ≠ 0) :
    Calls Tryd.prog 17 #[.agg #[.int .i64 3, .int .i64 ta, .int .i64 tn, .string s]] w fun e w' => e = .returned (.bool false) ∧ Later w w' := by
  have n0 : (tn != 0) = true := bne_iff_ne.2 hn
  have n1 : (tn == 0) = false := beq_eq_false_iff_ne.2 hn
  go_enter Tryd.func17, Tryd.ntmps17
  go_wp2
  go_ret
  exact ⟨rfl, later1 _ _⟩
set_option maxRecDepth 100000 in
set_option maxHeartbeats 4000000 in
theorem rr4n (ta tn : Int) (s : ByteArray) (w : World) (hn : tn ≠ 0) :
    Calls Tryd.prog 17 #[.agg #[.int .i64 4, .int .i64 ta, .int .i64 tn, .string s]] w fun e w' => e = .returned (.bool false) ∧ Later w w' := by
  have n0 : (tn != 0) = true := bne_iff_ne.2 hn
  have n1 : (tn == 0) = false := beq_eq_false_iff_ne.2 hn
  go_enter Tryd.func17, Tryd.ntmps17
  go_wp2
  go_ret
  exact ⟨rfl, later1 _ _⟩
set_option maxRecDepth 100000 in
set_option maxHeartbeats 4000000 in
theorem rr5n (ta tn : Int) (s : ByteArray) (w : World) (hn : tn ≠ 0) :
    Calls Tryd.prog 17 #[.agg #[.int .i64 5, .int .i64 ta, .int .i64 tn, .string s]] w fun e w' => e = .returned (.bool false) ∧ Later w w' := by
  have n0 : (tn != 0) = true := bne_iff_ne.2 hn
  have n1 : (tn == 0) = false := beq_eq_false_iff_ne.2 hn
  go_enter Tryd.func17, Tryd.ntmps17
  go_wp2
  go_ret
  exact ⟨rfl, later1 _ _⟩
set_option maxRecDepth 100000 in
set_option maxHeartbeats 4000000 in
theorem rr1a (ta tn : Int) (s : ByteArray) (w : World) (hn : tn = 0) (h0 : s.size = 0) :
    Calls Tryd.prog 17 #[.agg #[.int .i64 1, .int .i64 ta, .int .i64 tn, .string s]] w fun e w' => e = .returned (.bool false) ∧ Later w w' := by
  have d1 : decide (1 ≤ (s.size : Int)) = false := decide_eq_false (by omega)
  have g1 : ¬ (1 : Int) ≤ (s.size : Int) := by omega
  clear h0

  have n0 : (tn != 0) = false := by rw [hn]; rfl
  clear hn
  obtain ⟨w0, hw0⟩ : ∃ x, w.alloc (.cells #[.int .i64 1, .int .i64 ta, .int .i64 tn, .string s] 41) = x := ⟨_, rfl⟩
  have b0 := Blk.new w 41 #[.int .i64 1, .int .i64 ta, .int .i64 tn, .string s] [.int .i64 1, .int .i64 ta, .int .i64 tn, .string s] rfl
  have lw0 := later1 w (.cells #[.int .i64 1, .int .i64 ta, .int .i64 tn, .string s] 41)
  rw [hw0] at b0 lw0
  have k0 := cell_regrown (b0.cell (j := 0) (v := .int .i64 1) rfl)
  have k2 := cell_regrown (b0.cell (j := 2) (v := .int .i64 tn) rfl)
  have k3 := cell_regrown (b0.cell (j := 3) (v := .string s) rfl)
  have HW0 := Lib.hid hw0
  clear hw0 b0
  go_enter Tryd.func17, Tryd.ntmps17
  go_wp2
  rw [HW0.out]
  refine wp_region_quiet_below (by kernel_rfl) (by kernel_rfl) ?_
  repeat (go_big_quiet_step (fail))
  refine wpQuiet_nil ?_
  rintro _ ⟨⟨dq, osq⟩, rfl⟩
  go_wp2
  go_ret
  exact ⟨rfl, Later.trans_ lw0 (below_regrown w0 dq osq)⟩
set_option maxRecDepth 100000 in
set_option maxHeartbeats 4000000 in
theorem rr1b (ta tn : Int) (s : ByteArray) (w : World) (hn : tn = 0) (h0 : 32 < s.size) :
    Calls Tryd.prog 17 #[.agg #[.int .i64 1, .int .i64 ta, .int .i64 tn, .string s]] w fun e w' => e = .returned (.bool false) ∧ Later w w' := by
  have d1 : decide (1 ≤ (s.size : Int)) = true := decide_eq_true (by omega)
  have g1 : (1 : Int) ≤ (s.size : Int) := by omega
  have d2 : decide ((s.size : Int) ≤ 32) = false := decide_eq_false (by omega)
  have g2 : ¬ (s.size : Int) ≤ 32 := by omega
  have n0 : (tn != 0) = false := by rw [hn]; rfl
  clear hn h0
  obtain ⟨w0, hw0⟩ : ∃ x, w.alloc (.cells #[.int .i64 1, .int .i64 ta, .int .i64 tn, .string s] 41) = x := ⟨_, rfl⟩
  have b0 := Blk.new w 41 #[.int .i64 1, .int .i64 ta, .int .i64 tn, .string s] [.int .i64 1, .int .i64 ta, .int .i64 tn, .string s] rfl
  have lw0 := later1 w (.cells #[.int .i64 1, .int .i64 ta, .int .i64 tn, .string s] 41)
  rw [hw0] at b0 lw0
  have k0 := cell_regrown (b0.cell (j := 0) (v := .int .i64 1) rfl)
  have k2 := cell_regrown (b0.cell (j := 2) (v := .int .i64 tn) rfl)
  have k3 := cell_regrown (b0.cell (j := 3) (v := .string s) rfl)
  have HW0 := Lib.hid hw0
  clear hw0 b0
  go_enter Tryd.func17, Tryd.ntmps17
  go_wp2
  rw [HW0.out]
  refine wp_region_quiet_below (by kernel_rfl) (by kernel_rfl) ?_
  repeat (go_big_quiet_step (fail))
  refine wpQuiet_nil ?_
  rintro _ ⟨⟨dq, osq⟩, rfl⟩
  go_wp2
  go_ret
  exact ⟨rfl, Later.trans_ lw0 (below_regrown w0 dq osq)⟩
set_option maxRecDepth 100000 in
set_option maxHeartbeats 4000000 in
theorem rr1c (ta tn : Int) (s : ByteArray) (w : World) (hn : tn = 0) (h0 : 0 < s.size) (h32 : s.size ≤ 32) :
    Calls Tryd.prog 17 #[.agg #[.int .i64 1, .int .i64 ta, .int .i64 tn, .string s]] w fun e w' => e = .returned (.bool (Lx.isName (L s))) ∧ Later w w' := by
  have hlen := L_len s
  have d1 : decide (1 ≤ (s.size : Int)) = true := decide_eq_true (by omega)
  have g1 : (1 : Int) ≤ (s.size : Int) := by omega
  have d2 : decide ((s.size : Int) ≤ 32) = true := decide_eq_true (by omega)
  have g2 : (s.size : Int) ≤ 32 := by omega
  have n0 : (tn != 0) = false := by rw [hn]; rfl
  clear hn
  obtain ⟨c, hc⟩ : ∃ c, s[0]'(by omega) = c := ⟨_, rfl⟩
  have hL := L_cons s h0
  rw [hc] at hL
  have hi : Lx.isName (L s) = (Lx.letterB c && decide ((Lx.word (L s)).length = s.size)) := by
    unfold Lx.isName
    rw [decide_eq_true (show 1 ≤ (L s).length ∧ (L s).length ≤ 32 by omega), Bool.true_and, show Lx.letterB ((L s).headD 0) = Lx.letterB c by rw [hL]; rfl, ← hlen]
    congr 1
    exact decide_eq_decide.2 (word_len (L s)).symm
  rw [hi]
  clear hi hL
  obtain ⟨w0, hw0⟩ : ∃ x, w.alloc (.cells #[.int .i64 1, .int .i64 ta, .int .i64 tn, .string s] 41) = x := ⟨_, rfl⟩
  have b0 := Blk.new w 41 #[.int .i64 1, .int .i64 ta, .int .i64 tn, .string s] [.int .i64 1, .int .i64 ta, .int .i64 tn, .string s] rfl
  have lw0 := later1 w (.cells #[.int .i64 1, .int .i64 ta, .int .i64 tn, .string s] 41)
  rw [hw0] at b0 lw0
  have k0 := cell_regrown (b0.cell (j := 0) (v := .int .i64 1) rfl)
  have k2 := cell_regrown (b0.cell (j := 2) (v := .int .i64 tn) rfl)
  have k3 := cell_regrown (b0.cell (j := 3) (v := .string s) rfl)
  have HW0 := Lib.hid hw0
  clear hw0 b0
  have HL := reM (w := w0) (fun w' => letter_any c w')
  have HR0 := reM (w := w0) (fun w' => run_any s 0 w' (Nat.zero_le _) (by omega))
  rw [List.drop_zero, Nat.zero_add] at HR0
  obtain ⟨z, hz⟩ : ∃ z, (Lx.word (L s)).length = z := ⟨_, rfl⟩
  rw [hz] at HR0 ⊢
  have HR : ∀ d os, Calls Tryd.prog 34 #[.string s, .int .i64 0] (Sort.grow (redrawn w0 d) os) fun e w'' => e = .returned (.int .i64 (z : Int)) ∧ ∃ p : Regrown, w'' = Sort.grow (redrawn w0 p.d) p.os := HR0
  have hzz : decide (z = s.size) = ((z : Int) == (s.size : Int)) := by rw [Bool.eq_iff_iff, beq_iff_eq, decide_eq_true_eq]; omega
  rw [hzz]
  clear hzz hz HR0 hlen
  cases hb : Lx.letterB c with
  | false =>
    rw [hb] at HL
    clear hb
    go_enter Tryd.func17, Tryd.ntmps17
    go_wp2
    rw [HW0.out]
    refine wp_region_quiet_below (by kernel_rfl) (by kernel_rfl) ?_
    repeat (go_big_quiet_step (first | with_reducible exact HL _ _ | with_reducible exact HR _ _))
    refine wpQuiet_nil ?_
    rintro _ ⟨⟨dq, osq⟩, rfl⟩
    go_wp2
    go_ret
    exact ⟨rfl, Later.trans_ lw0 (below_regrown w0 dq osq)⟩
  | true =>
    rw [hb] at HL
    clear hb
    go_enter Tryd.func17, Tryd.ntmps17
    go_wp2
    rw [HW0.out]
    refine wp_region_quiet_below (by kernel_rfl) (by kernel_rfl) ?_
    repeat (go_big_quiet_step (first | with_reducible exact HL _ _ | with_reducible exact HR _ _))
    refine wpQuiet_nil ?_
    rintro _ ⟨⟨dq, osq⟩, rfl⟩
    go_wp2
    go_ret
    exact ⟨rfl, Later.trans_ lw0 (below_regrown w0 dq osq)⟩
set_option maxRecDepth 100000 in
set_option maxHeartbeats 4000000 in
theorem rr2a (ta tn : Int) (s : ByteArray) (w : World) (h0 : ¬ s.size = 0) :
    Calls Tryd.prog 17 #[.agg #[.int .i64 2, .int .i64 ta, .int .i64 tn, .string s]] w fun e w' => e = .returned (.bool false) ∧ Later w w' := by
  have x1 : (s.toList == []) = false := by rw [str_nil]; exact decide_eq_false h0
  have x2 : decide (s = ByteArray.empty) = false := by rw [emp_size]; exact decide_eq_false h0
  clear h0
  go_enter Tryd.func17, Tryd.ntmps17
  go_wp2
  go_ret
  exact ⟨rfl, later1 _ _⟩
set_option maxRecDepth 100000 in
set_option maxHeartbeats 4000000 in
theorem rr2b (ta tn : Int) (s : ByteArray) (w : World) (h0 : s.size = 0) (g0 : ¬ 0 ≤ tn) :
    Calls Tryd.prog 17 #[.agg #[.int .i64 2, .int .i64 ta, .int .i64 tn, .string s]] w fun e w' => e = .returned (.bool false) ∧ Later w w' := by
  have x1 : (s.toList == []) = true := by rw [str_nil]; exact decide_eq_true h0
  have x2 : decide (s = ByteArray.empty) = true := by rw [emp_size]; exact decide_eq_true h0
  clear h0
  have d0 : decide (0 ≤ tn) = false := decide_eq_false g0
  go_enter Tryd.func17, Tryd.ntmps17
  go_wp2
  go_ret
  exact ⟨rfl, later1 _ _⟩
set_option maxRecDepth 100000 in
set_option maxHeartbeats 4000000 in
theorem rr2c (ta tn : Int) (s : ByteArray) (w : World) (h0 : s.size = 0) (g0 : 0 ≤ tn) :
    Calls Tryd.prog 17 #[.agg #[.int .i64 2, .int .i64 ta, .int .i64 tn, .string s]] w fun e w' => e = .returned (.bool (decide (tn ≤ 4294967295))) ∧ Later w w' := by
  have x1 : (s.toList == []) = true := by rw [str_nil]; exact decide_eq_true h0
  have x2 : decide (s = ByteArray.empty) = true := by rw [emp_size]; exact decide_eq_true h0
  clear h0
  have d0 : decide (0 ≤ tn) = true := decide_eq_true g0
  go_enter Tryd.func17, Tryd.ntmps17
  go_wp2
  go_ret
  exact ⟨rfl, later1 _ _⟩
set_option maxRecDepth 100000 in
set_option maxHeartbeats 4000000 in
theorem rr3z (ta tn : Int) (s : ByteArray) (w : World) (hn : tn = 0) :
    Calls Tryd.prog 17 #[.agg #[.int .i64 3, .int .i64 ta, .int .i64 tn, .string s]] w fun e w' => e = .returned (.bool (decide (s.size ≤ 16384))) ∧ Later w w' := by
  have n0 : (tn != 0) = false := by rw [hn]; rfl
  clear hn
  go_enter Tryd.func17, Tryd.ntmps17
  go_wp2
  go_ret
  exact ⟨ret_bool (by rw [decide_eq_decide]; omega), later1 _ _⟩
set_option maxRecDepth 100000 in
set_option maxHeartbeats 4000000 in
theorem rr5a (ta tn : Int) (s : ByteArray) (w : World) (hn : tn = 0) (h0 : ¬ s.size = 0) :
    Calls Tryd.prog 17 #[.agg #[.int .i64 5, .int .i64 ta, .int .i64 tn, .string s]] w fun e w' => e = .returned (.bool false) ∧ Later w w' := by
  have n0 : (tn != 0) = false := by rw [hn]; rfl
  clear hn
  have x1 : (s.toList == []) = false := by rw [str_nil]; exact decide_eq_false h0
  have x2 : decide (s = ByteArray.empty) = false := by rw [emp_size]; exact decide_eq_false h0
  clear h0
  go_enter Tryd.func17, Tryd.ntmps17
  go_wp2
  go_ret
  exact ⟨rfl, later1 _ _⟩
set_option maxRecDepth 100000 in
set_option maxHeartbeats 4000000 in
theorem rr5b (ta tn : Int) (s : ByteArray) (w : World) (hn : tn = 0) (h0 : s.size = 0) :
    Calls Tryd.prog 17 #[.agg #[.int .i64 5, .int .i64 ta, .int .i64 tn, .string s]] w fun e w' => e = .returned (.bool true) ∧ Later w w' := by
  have n0 : (tn != 0) = false := by rw [hn]; rfl
  clear hn
  have x1 : (s.toList == []) = true := by rw [str_nil]; exact decide_eq_true h0
  have x2 : decide (s = ByteArray.empty) = true := by rw [emp_size]; exact decide_eq_true h0
  clear h0
  go_enter Tryd.func17, Tryd.ntmps17
  go_wp2
  go_ret
  exact ⟨rfl, later1 _ _⟩
set_option maxRecDepth 100000 in
set_option maxHeartbeats 4000000 in
theorem rron (ta tn : Int) (tk : Int) (s : ByteArray) (w : World) (e1 : tk ≠ 1) (e2 : tk ≠ 2) (e3 : tk ≠ 3) (e4 : tk ≠ 4) (e5 : tk ≠ 5) (hn : tn ≠ 0) :
    Calls Tryd.prog 17 #[.agg #[.int .i64 tk, .int .i64 ta, .int .i64 tn, .string s]] w fun e w' => e = .returned (.bool false) ∧ Later w w' := by
  have b1 : (tk == 1) = false := beq_eq_false_iff_ne.2 e1
  have b2 : (tk == 2) = false := beq_eq_false_iff_ne.2 e2
  have b3 : (tk == 3) = false := beq_eq_false_iff_ne.2 e3
  have b4 : (tk == 4) = false := beq_eq_false_iff_ne.2 e4
  have b5 : (tk == 5) = false := beq_eq_false_iff_ne.2 e5
  have b6 : (tk != 2) = true := bne_iff_ne.2 e2
  clear e1 e2 e3 e4 e5
  have n0 : (tn != 0) = true := bne_iff_ne.2 hn
  have n1 : (tn == 0) = false := beq_eq_false_iff_ne.2 hn
  go_enter Tryd.func17, Tryd.ntmps17
  go_wp2
  go_ret
  exact ⟨rfl, later1 _ _⟩
set_option maxRecDepth 100000 in
set_option maxHeartbeats 4000000 in
theorem rroz (ta tn : Int) (tk : Int) (s : ByteArray) (w : World) (e1 : tk ≠ 1) (e2 : tk ≠ 2) (e3 : tk ≠ 3) (e4 : tk ≠ 4) (e5 : tk ≠ 5) (hn : tn = 0) :
    Calls Tryd.prog 17 #[.agg #[.int .i64 tk, .int .i64 ta, .int .i64 tn, .string s]] w fun e w' => e = .returned (.bool false) ∧ Later w w' := by
  have b1 : (tk == 1) = false := beq_eq_false_iff_ne.2 e1
  have b2 : (tk == 2) = false := beq_eq_false_iff_ne.2 e2
  have b3 : (tk == 3) = false := beq_eq_false_iff_ne.2 e3
  have b4 : (tk == 4) = false := beq_eq_false_iff_ne.2 e4
  have b5 : (tk == 5) = false := beq_eq_false_iff_ne.2 e5
  have b6 : (tk != 2) = true := bne_iff_ne.2 e2
  clear e1 e2 e3 e4 e5
  have n0 : (tn != 0) = false := by rw [hn]; rfl
  clear hn
  go_enter Tryd.func17, Tryd.ntmps17
  go_wp2
  go_ret
  exact ⟨rfl, later1 _ _⟩
set_option maxRecDepth 100000 in
set_option maxHeartbeats 4000000 in
theorem rr4a (ta tn : Int) (s : ByteArray) (w : World) (hn : tn = 0) (h0 : ¬ s.size = 1) :
    Calls Tryd.prog 17 #[.agg #[.int .i64 4, .int .i64 ta, .int .i64 tn, .string s]] w fun e w' => e = .returned (.bool false) ∧ Later w w' := by
  have n0 : (tn != 0) = false := by rw [hn]; rfl
  clear hn
  have d1 : ((s.size : Int) == 1) = false := beq_eq_false_iff_ne.2 (by omega)
  clear h0
  go_enter Tryd.func17, Tryd.ntmps17
  go_wp2
  go_ret
  exact ⟨rfl, later1 _ _⟩
set_option maxRecDepth 100000 in
set_option maxHeartbeats 4000000 in
theorem rr4b (ta tn : Int) (s : ByteArray) (w : World) (hn : tn = 0) (h0 : s.size = 1) :
    Calls Tryd.prog 17 #[.agg #[.int .i64 4, .int .i64 ta, .int .i64 tn, .string s]] w fun e w' => e = .returned (.bool (Lx.signB ((L s).headD 0))) ∧ Later w w' := by
  have n0 : (tn != 0) = false := by rw [hn]; rfl
  clear hn
  have d1 : ((s.size : Int) == 1) = true := beq_iff_eq.2 (by omega)
  obtain ⟨c, hc⟩ : ∃ c, s[0]'(by omega) = c := ⟨_, rfl⟩
  have hL := L_cons s (by omega)
  rw [hc] at hL
  rw [show (L s).headD 0 = c by rw [hL]; rfl]
  clear hL
  have HG := Lib.hid fun w' => sign_any c w'
  go_enter Tryd.func17, Tryd.ntmps17
  go_wp2_with (go_at_call 35; refine (HG.out _).mono ?_; rintro e w' ⟨rfl, hw'⟩; rw [hw']; clear hw' w')
  go_ret
  exact ⟨rfl, later1 _ _⟩
theorem rright_any (t : Lx.Tok) (w : World) : Calls Tryd.prog 17 #[.agg (Tk t).toArray] w fun e w' => e = .returned (.bool (Lx.right t)) ∧ Later w w' := by
  obtain ⟨tk, ta, tn, ts⟩ := t
  obtain ⟨s, hs⟩ : ∃ s : ByteArray, (⟨ts.toArray⟩ : ByteArray) = s := ⟨_, rfl⟩
  have hLs : L s = ts := by rw [← hs, L_mk]
  unfold Tk
  simp only
  rw [hs]
  have hlen := L_len s
  have hE : (ts = []) ↔ s.size = 0 := by
    rw [← hlen, hLs]
    exact List.length_eq_zero_iff.symm
  rw [hLs] at hlen
  by_cases e1 : tk = 1
  · subst e1
    have hr : Lx.right ⟨1, ta, tn, ts⟩ = (decide (tn = 0) && Lx.isName ts) := by unfold Lx.right; rw [if_pos rfl]
    rw [hr]
    by_cases hn : tn = 0
    · rw [decide_eq_true hn, Bool.true_and]
      by_cases h0 : s.size = 0
      · rw [show Lx.isName ts = false by unfold Lx.isName; rw [decide_eq_false (by omega)]; rfl]
        exact rr1a ta tn s w hn h0
      · by_cases h1 : s.size ≤ 32
        · rw [← hLs]; exact rr1c ta tn s w hn (by omega) h1
        · rw [show Lx.isName ts = false by unfold Lx.isName; rw [decide_eq_false (by omega)]; rfl]
          exact rr1b ta tn s w hn (by omega)
    · rw [decide_eq_false hn, Bool.false_and]; exact rr1n ta tn s w hn
  by_cases e2 : tk = 2
  · subst e2
    have hr : Lx.right ⟨2, ta, tn, ts⟩ = (decide (ts = []) && decide (0 ≤ tn ∧ tn ≤ 4294967295)) := by unfold Lx.right; rw [if_neg (by simp), if_pos rfl]
    rw [hr]
    by_cases h0 : s.size = 0
    · rw [decide_eq_true (hE.2 h0), Bool.true_and]
      by_cases g0 : 0 ≤ tn
      · rw [show decide (0 ≤ tn ∧ tn ≤ 4294967295) = decide (tn ≤ 4294967295) by rw [decide_eq_decide]; omega]
        exact rr2c ta tn s w h0 g0
      · rw [show decide (0 ≤ tn ∧ tn ≤ 4294967295) = false by rw [decide_eq_false_iff_not]; omega]
        exact rr2b ta tn s w h0 g0
    · rw [decide_eq_false (fun h => h0 (hE.1 h)), Bool.false_and]; exact rr2a ta tn s w h0
  by_cases e3 : tk = 3
  · subst e3
    have hr : Lx.right ⟨3, ta, tn, ts⟩ = (decide (tn = 0) && decide (ts.length ≤ 16384)) := by unfold Lx.right; rw [if_neg (by simp), if_neg (by simp), if_pos rfl]
    rw [hr, hlen]
    by_cases hn : tn = 0
    · rw [decide_eq_true hn, Bool.true_and]; exact rr3z ta tn s w hn
    · rw [decide_eq_false hn, Bool.false_and]; exact rr3n ta tn s w hn
  by_cases e4 : tk = 4
  · subst e4
    have hr : Lx.right ⟨4, ta, tn, ts⟩ = (decide (tn = 0) && (decide (ts.length = 1) && Lx.signB (ts.headD 0))) := by unfold Lx.right; rw [if_neg (by simp), if_neg (by simp), if_neg (by simp), if_pos rfl]
    rw [hr, hlen]
    by_cases hn : tn = 0
    · rw [decide_eq_true hn, Bool.true_and]
      by_cases h0 : s.size = 1
      · rw [decide_eq_true h0, Bool.true_and, ← hLs]; exact rr4b ta tn s w hn h0
      · rw [decide_eq_false h0, Bool.false_and]; exact rr4a ta tn s w hn h0
    · rw [decide_eq_false hn, Bool.false_and]; exact rr4n ta tn s w hn
  by_cases e5 : tk = 5
  · subst e5
    have hr : Lx.right ⟨5, ta, tn, ts⟩ = (decide (tn = 0) && decide (ts = [])) := by unfold Lx.right; rw [if_neg (by simp), if_neg (by simp), if_neg (by simp), if_neg (by simp), if_pos rfl]
    rw [hr]
    by_cases hn : tn = 0
    · rw [decide_eq_true hn, Bool.true_and]
      by_cases h0 : s.size = 0
      · rw [decide_eq_true (hE.2 h0)]; exact rr5b ta tn s w hn h0
      · rw [decide_eq_false (fun h => h0 (hE.1 h))]; exact rr5a ta tn s w hn h0
    · rw [decide_eq_false hn, Bool.false_and]; exact rr5n ta tn s w hn
  have hr : Lx.right ⟨tk, ta, tn, ts⟩ = false := by unfold Lx.right; rw [if_neg e1, if_neg e2, if_neg e3, if_neg e4, if_neg e5]
  rw [hr]
  by_cases hn : tn = 0
  · exact rroz ta tn tk s w e1 e2 e3 e4 e5 hn
  · exact rron ta tn tk s w e1 e2 e3 e4 e5 hn
end Go.Proofs.YtjopadfkdpcjmaaDoor
