/-
  THE WALKS OF allowed, Valid, Size, inside, there; and of the reference's Valid, Size, There.
-/
import Derived.Test.YtffgbbfcbobecaaMemArgs
namespace Go.Proofs.Ytffgbbfcbobecaa
open Go.RowKit Go.ChangeShapes Go.WideShapes Go.ChangeAt

theorem later1 (w : World) (o : Obj) : Later w (w.alloc o) := (Below.refl _ _).alloc (Nat.le_refl _) o
theorem later0 (w : World) : Later w w := Below.refl _ _

set_option maxRecDepth 100000 in
theorem allowed_any (n : Int) (w : World) : Calls Try.prog 58 #[.int .i64 n] w fun e w' => e = .returned (.bool (decide (1 ≤ n ∧ n ≤ 64))) ∧ w = w' := by
  by_cases h1 : 1 ≤ n
  · have d1 : decide (1 ≤ n) = true := decide_eq_true h1
    go_enter Try.func58, Try.ntmps58
    go_wp2
    go_ret
    exact ⟨ret_bool (by rw [decide_eq_decide]; omega), rfl⟩
  · have d1 : decide (1 ≤ n) = false := decide_eq_false h1
    go_enter Try.func58, Try.ntmps58
    go_wp2
    go_ret
    exact ⟨rfl, rfl⟩
set_option maxRecDepth 100000 in
theorem size_any (A : Option Addr) (n c : Nat) (w : World) (hn : n ≤ 64) : Calls Try.prog 34 #[.agg #[.slice A n c]] w fun e w' => e = .returned (.int .i64 ((n * 128 : Nat) : Int)) ∧ Later w w' := by
  go_enter Try.func34, Try.ntmps34
  go_wp2
  go_ret
  exact ⟨ret_int (by omega), later1 _ _⟩
set_option maxRecDepth 100000 in
theorem rsize_any (A : Option Addr) (n c : Nat) (w : World) (hn : n ≤ 64) : Calls Try.prog 39 #[.agg #[.slice A n c]] w fun e w' => e = .returned (.int .i64 ((n * 128 : Nat) : Int)) ∧ Later w w' := by
  go_enter Try.func39, Try.ntmps39
  go_wp2
  go_ret
  exact ⟨ret_int (by omega), later1 _ _⟩
set_option maxRecDepth 100000 in
theorem rvalid_any (A : Option Addr) (n c : Nat) (w : World) : Calls Try.prog 9 #[.agg #[.slice A n c]] w fun e w' => e = .returned (.bool (decide (1 ≤ n ∧ n ≤ 64))) ∧ Later w w' := by
  by_cases h1 : 1 ≤ n
  · have d1 : decide (1 ≤ (n : Int)) = true := decide_eq_true (by omega)
    go_enter Try.func9, Try.ntmps9
    go_wp2
    go_ret
    exact ⟨ret_bool (by rw [decide_eq_decide]; omega), later1 _ _⟩
  · have d1 : decide (1 ≤ (n : Int)) = false := decide_eq_false (by omega)
    go_enter Try.func9, Try.ntmps9
    go_wp2
    go_ret
    exact ⟨ret_bool (by symm; rw [decide_eq_false_iff_not]; omega), later1 _ _⟩

set_option maxRecDepth 100000 in
theorem inside_any (A : Option Addr) (n c : Nat) (a k : Int) (w : World) (hn : n ≤ 64) (ha : -9223372036854775808 ≤ a ∧ a ≤ 9223372036854775807) :
    Calls Try.prog 60 #[.agg #[.slice A n c], .int .i64 a, .int .i64 k] w fun e w' => e = .returned (.bool (decide (Mm.Inside (n * 128) a k))) ∧ Later w w' := by
  have H := Lib.hid fun w' => size_any A n c w' hn
  obtain ⟨L, hL⟩ : ∃ L, L = n * 128 := ⟨_, rfl⟩
  rw [← hL] at H ⊢
  have hL2 : L ≤ 8192 := by omega
  clear hL
  by_cases h1 : 0 ≤ a
  · have d1 : decide (0 ≤ a) = true := decide_eq_true h1
    by_cases h2 : 0 ≤ k
    · have d2 : decide (0 ≤ k) = true := decide_eq_true h2
      go_enter Try.func60, Try.ntmps60
      go_wp2_with (go_at_call 34; refine (H.out _).mono ?_; rintro e w' ⟨rfl, l1⟩)
      go_ret
      exact ⟨ret_bool (by rw [decide_eq_decide]; unfold Mm.Inside; omega), Later.trans_ (later1 _ _) l1⟩
    · have d2 : decide (0 ≤ k) = false := decide_eq_false h2
      go_enter Try.func60, Try.ntmps60
      go_wp2
      go_ret
      exact ⟨ret_bool (by symm; rw [decide_eq_false_iff_not]; unfold Mm.Inside; omega), later1 _ _⟩
  · have d1 : decide (0 ≤ a) = false := decide_eq_false h1
    go_enter Try.func60, Try.ntmps60
    go_wp2
    go_ret
    exact ⟨ret_bool (by symm; rw [decide_eq_false_iff_not]; unfold Mm.Inside; omega), later1 _ _⟩

theorem tmod4 (a : Int) : (a.tmod 4 == 0) = decide (a % 4 = 0) := by
  rw [Bool.eq_iff_iff, beq_iff_eq, decide_eq_true_eq]
  constructor
  · intro h
    have := Int.dvd_iff_tmod_eq_zero.2 h
    omega
  · intro h
    exact Int.dvd_iff_tmod_eq_zero.1 (by omega)
set_option maxRecDepth 100000 in
theorem there_any (A : Option Addr) (n c : Nat) (a s : Int) (w : World) (hn : n ≤ 64) (ha : -9223372036854775808 ≤ a ∧ a ≤ 9223372036854775807) :
    Calls Try.prog 76 #[.agg #[.slice A n c], .int .i64 a, .int .i64 s] w fun e w' => e = .returned (.bool (decide (Mm.There (n * 128) a s))) ∧ Later w w' := by
  have H := Lib.hid fun w' => inside_any A n c a s w' hn ha
  obtain ⟨L, hL⟩ : ∃ L, L = n * 128 := ⟨_, rfl⟩
  rw [← hL] at H ⊢
  clear hL hn
  obtain ⟨q, hq⟩ : ∃ q, q = decide (Mm.Inside L a s) := ⟨_, rfl⟩
  rw [← hq] at H
  have HQ := Lib.hid hq
  clear hq
  have b0 : (s == 1) = decide (s = 1) := by rw [Bool.eq_iff_iff, beq_iff_eq, decide_eq_true_eq]
  have b1 : (s == 4) = decide (s = 4) := by rw [Bool.eq_iff_iff, beq_iff_eq, decide_eq_true_eq]
  by_cases h1 : s = 1
  · subst h1
    clear b0 b1
    go_enter Try.func76, Try.ntmps76
    go_wp2_with (go_at_call 60; refine (H.out _).mono ?_; rintro e w' ⟨rfl, l1⟩)
    go_ret
    exact ⟨ret_bool (by rw [HQ.out, decide_eq_decide]; unfold Mm.Inside Mm.There; omega), Later.trans_ (later1 _ _) l1⟩
  · have d1 : (s == 1) = false := beq_false_of_ne h1
    by_cases h2 : s = 4
    · subst h2
      clear d1
      have t1 := tmod4 a
      by_cases h3 : a % 4 = 0
      · rw [decide_eq_true h3] at t1
        clear b0 b1
        go_enter Try.func76, Try.ntmps76
        go_wp2_with (go_at_call 60; refine (H.out _).mono ?_; rintro e w' ⟨rfl, l1⟩)
        go_ret
        exact ⟨ret_bool (by rw [HQ.out, decide_eq_decide]; unfold Mm.Inside Mm.There; omega), Later.trans_ (later1 _ _) l1⟩
      · rw [decide_eq_false h3] at t1
        clear b0 b1
        go_enter Try.func76, Try.ntmps76
        go_wp2_with (go_at_call 60; refine (H.out _).mono ?_; rintro e w' ⟨rfl, l1⟩)
        go_ret
        exact ⟨ret_bool (by symm; rw [decide_eq_false_iff_not]; unfold Mm.There; omega), later1 _ _⟩
    · have d2 : (s == 4) = false := beq_false_of_ne h2
      clear b0 b1
      go_enter Try.func76, Try.ntmps76
      go_wp2_with (go_at_call 60; refine (H.out _).mono ?_; rintro e w' ⟨rfl, l1⟩)
      go_ret
      exact ⟨ret_bool (by symm; rw [decide_eq_false_iff_not]; unfold Mm.There; omega), later1 _ _⟩

set_option maxRecDepth 100000 in
theorem rthere_any (A : Option Addr) (n c : Nat) (a s : Int) (w : World) (hn : n ≤ 64) (ha : -9223372036854775808 ≤ a ∧ a ≤ 9223372036854775807) :
    Calls Try.prog 85 #[.agg #[.slice A n c], .int .i64 a, .int .i64 s] w fun e w' => e = .returned (.bool (decide (Mm.There (n * 128) a s))) ∧ Later w w' := by
  have H := Lib.hid fun w' => rsize_any A n c w' hn
  obtain ⟨L, hL⟩ : ∃ L, L = n * 128 := ⟨_, rfl⟩
  rw [← hL] at H ⊢
  have hL2 : L ≤ 8192 := by omega
  clear hL hn
  by_cases h1 : s = 1
  · have d0 : decide (0 ≤ a) = true ∨ decide (0 ≤ a) = false := by cases decide (0 ≤ a) <;> simp
    subst h1
    rcases d0 with d0 | d0
    · have h0 : 0 ≤ a := of_decide_eq_true d0
      have t1 : a % 1 == 0 := by simp
      go_enter Try.func85, Try.ntmps85
      go_wp2_with (go_at_call 39; refine (H.out _).mono ?_; rintro e w' ⟨rfl, l1⟩)
      go_ret
      exact ⟨ret_bool (by rw [decide_eq_decide]; unfold Mm.There; omega), Later.trans_ (later1 _ _) l1⟩
    · have h0 : ¬ 0 ≤ a := of_decide_eq_false d0
      go_enter Try.func85, Try.ntmps85
      go_wp2_with (go_at_call 39; refine (H.out _).mono ?_; rintro e w' ⟨rfl, l1⟩)
      go_ret
      exact ⟨ret_bool (by symm; rw [decide_eq_false_iff_not]; unfold Mm.There; omega), later1 _ _⟩
  · by_cases h2 : s = 4
    · subst h2
      have d0 : decide (0 ≤ a) = true ∨ decide (0 ≤ a) = false := by cases decide (0 ≤ a) <;> simp
      rcases d0 with d0 | d0
      · have h0 : 0 ≤ a := of_decide_eq_true d0
        by_cases h3 : a % 4 = 0
        · have t1 : (a % 4 == 0) = true := beq_iff_eq.2 h3
          go_enter Try.func85, Try.ntmps85
          go_wp2_with (go_at_call 39; refine (H.out _).mono ?_; rintro e w' ⟨rfl, l1⟩)
          go_ret
          exact ⟨ret_bool (by rw [decide_eq_decide]; unfold Mm.There; omega), Later.trans_ (later1 _ _) l1⟩
        · have t1 : (a % 4 == 0) = false := beq_false_of_ne h3
          go_enter Try.func85, Try.ntmps85
          go_wp2_with (go_at_call 39; refine (H.out _).mono ?_; rintro e w' ⟨rfl, l1⟩)
          go_ret
          exact ⟨ret_bool (by symm; rw [decide_eq_false_iff_not]; unfold Mm.There; omega), later1 _ _⟩
      · have h0 : ¬ 0 ≤ a := of_decide_eq_false d0
        go_enter Try.func85, Try.ntmps85
        go_wp2_with (go_at_call 39; refine (H.out _).mono ?_; rintro e w' ⟨rfl, l1⟩)
        go_ret
        exact ⟨ret_bool (by symm; rw [decide_eq_false_iff_not]; unfold Mm.There; omega), later1 _ _⟩
    · have d1 : (s != 1) = true := bne_iff_ne.2 h1
      have d2 : (s != 4) = true := bne_iff_ne.2 h2
      go_enter Try.func85, Try.ntmps85
      go_wp2_with (go_at_call 39; refine (H.out _).mono ?_; rintro e w' ⟨rfl, l1⟩)
      go_ret
      exact ⟨ret_bool (by symm; rw [decide_eq_false_iff_not]; unfold Mm.There; omega), later1 _ _⟩

end Go.Proofs.Ytffgbbfcbobecaa
