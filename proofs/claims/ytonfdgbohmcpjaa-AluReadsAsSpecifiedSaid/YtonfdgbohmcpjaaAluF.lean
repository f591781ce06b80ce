/-
  THE WALKS OF the reference: powers, bits, words, places.
-/
import Derived.Test.YtonfdgbohmcpjaaAluBits
import Derived.Test.YtonfdgbohmcpjaaAluA
import Derived.Laws.Bits64
import Derived.Laws.BitsLemmas
namespace Go.Proofs.Ytonfdgbohmcpjaa
open Go.RowKit Go.ChangeShapes Go.WideShapes Go.ChangeAt

theorem two_pow_le {k : Nat} (h : k ≤ 31) : 2 ^ k ≤ 2147483648 := Nat.le_trans (Nat.pow_le_pow_right (by omega) h) (by decide)
set_option maxRecDepth 100000 in
theorem power_any (k : Nat) (hk : k ≤ 31) (w : World) : Calls Try.prog 28 #[.int .i64 k] w fun e w' => e = .returned (.int .u32 ((2 ^ k : Nat) : Int)) ∧ w = w' := by
  obtain ⟨m, hm⟩ : ∃ m, m = 2 ^ k := ⟨_, rfl⟩
  rw [← hm]
  have HM := Lib.hid hm
  clear hm
  go_enter Try.func28, Try.ntmps28
  go_wp2
  go_loop [3, 4] (fun o i => ∃ j q : Nat, j ≤ k ∧ Hid (q = 2 ^ j) ∧ i = .int .i64 j ∧ o = .int .u32 q) (fun _ i => k - (intOf i).toNat)
  case atStart => exact ⟨0, 1, Nat.zero_le _, Lib.hid rfl, rfl, rfl⟩
  case round =>
    obtain ⟨j, q, hj, hq, rfl, rfl⟩ := hrel
    by_cases hlt : j < k
    · have hb : q ≤ 1073741824 := by rw [hq.out]; exact Nat.le_trans (Nat.pow_le_pow_right (by omega) (show j ≤ 30 by omega)) (by decide)
      go_wp2
      go_round
      case rel => exact ⟨j + 1, 2 * q, by omega, Lib.hid (by rw [hq.out, Nat.pow_succ]; omega), by go_num, by go_num⟩
      case measure => simp [intOf]; omega
    · obtain rfl : j = k := by omega
      obtain rfl : q = m := by rw [hq.out, HM.out]
      go_wp2
      go_ret
      exact ⟨rfl, rfl⟩
theorem bit_nat (n k : Nat) : n / 2 ^ k % 2 = if n.testBit k then 1 else 0 := by
  rw [Nat.testBit_eq_decide_div_mod_eq]
  by_cases h : n / 2 ^ k % 2 = 1
  · rw [h]; rfl
  · rw [decide_eq_false h]; simp; omega
set_option maxRecDepth 100000 in
theorem bit_any (n k : Nat) (hn : n < 4294967296) (hk : k ≤ 31) (w : World) : Calls Try.prog 32 #[.int .u32 n, .int .i64 k] w fun e w' => e = .returned (.int .u32 (if n.testBit k then 1 else 0)) ∧ w = w' := by
  have HP := Lib.hid fun w => power_any k hk w
  have hb := bit_nat n k
  obtain ⟨q, hq⟩ : ∃ q, q = 2 ^ k := ⟨_, rfl⟩
  have hq1 : 0 < q := by rw [hq]; exact Nat.two_pow_pos k
  have hq2 : q ≤ 2147483648 := by rw [hq]; exact two_pow_le hk
  rw [← hq] at hb HP
  have hb2 : (n : Int) / (q : Int) % 2 = if n.testBit k then 1 else 0 := by
    rw [show (n : Int) / (q : Int) % 2 = ((n / q % 2 : Nat) : Int) by omega, hb]
    split <;> rfl
  rw [← hb2]
  have hq0 : ¬ ((q : Int) = 0) := by omega
  have hw : (n : Int) / (q : Int) % 4294967296 = (n : Int) / (q : Int) := by
    have h1 : n / q ≤ n := Nat.div_le_self _ _
    rw [show (n : Int) / (q : Int) = ((n / q : Nat) : Int) from rfl]
    generalize n / q = d at h1
    omega
  clear hb hb2 hq hk
  go_enter Try.func32, Try.ntmps32
  go_wp2_with (go_at_call 28; refine (HP.out _).mono ?_; rintro e w1 ⟨rfl, rfl⟩)
  go_ret
  exact ⟨rfl, rfl⟩
set_option maxRecDepth 100000 in
theorem word_any (n : Int) (w : World) : Calls Try.prog 26 #[.int .i64 n] w fun e w' => e = .returned (.int .u32 (n % 4294967296)) ∧ w = w' := by
  go_enter Try.func26, Try.ntmps26
  go_wp2
  go_ret
  exact ⟨rfl, rfl⟩
set_option maxRecDepth 100000 in
theorem one_any (q : Bool) (w : World) : Calls Try.prog 29 #[.bool q] w fun e w' => e = .returned (.int .u32 (if q then 1 else 0)) ∧ w = w' := by
  cases q
  · go_enter Try.func29, Try.ntmps29
    go_wp2
    go_ret
    exact ⟨rfl, rfl⟩
  · go_enter Try.func29, Try.ntmps29
    go_wp2
    go_ret
    exact ⟨rfl, rfl⟩
set_option maxRecDepth 100000 in
theorem rsigned_any {b : Int} (hb0 : 0 ≤ b) (hb1 : b < 4294967296) (w : World) : Calls Try.prog 18 #[.int .u32 b] w fun e w' => e = .returned (.int .i64 (Al.S b)) ∧ w = w' := by
  rw [Al.S_of hb0 hb1]
  by_cases h : b < 2147483648
  · rw [if_pos h]
    go_enter Try.func18, Try.ntmps18
    go_wp2
    go_ret
    exact ⟨rfl, rfl⟩
  · rw [if_neg h]
    go_enter Try.func18, Try.ntmps18
    go_wp2
    go_ret
    exact ⟨rfl, rfl⟩
set_option maxRecDepth 100000 in
theorem rplace_any (k : Int) (w : World) : Calls Try.prog 34 #[.int .i64 k] w fun e w' => e = .returned (.int .i64 (k % 4)) ∧ w = w' := by
  obtain ⟨t, ht⟩ : ∃ t, k.tmod 4 = t := ⟨_, rfl⟩
  have h1 : t = if 0 ≤ k ∨ k % 4 = 0 then k % 4 else k % 4 - 4 := by
    rw [← ht, Int.tmod_eq_emod]
    have : ((4 : Int) ∣ k) ↔ k % 4 = 0 := Int.dvd_iff_emod_eq_zero
    simp only [this]
    split <;> simp
  have hr : -4 < t ∧ t < 4 := by split at h1 <;> omega
  by_cases h : t < 0
  · have e : t + 4 = k % 4 := by split at h1 <;> omega
    rw [← e]
    clear h1 e
    go_enter Try.func34, Try.ntmps34
    go_wp2
    go_ret
    exact ⟨rfl, rfl⟩
  · have e : t = k % 4 := by split at h1 <;> omega
    rw [← e]
    clear h1 e
    go_enter Try.func34, Try.ntmps34
    go_wp2
    go_ret
    exact ⟨rfl, rfl⟩
end Go.Proofs.Ytonfdgbohmcpjaa
