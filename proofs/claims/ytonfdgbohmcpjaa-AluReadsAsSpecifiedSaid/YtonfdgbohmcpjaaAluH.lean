/-
  THE WALKS OF the reference: Extend, Byte, SetByte, Do, Taken.
-/
import Derived.Test.YtonfdgbohmcpjaaAluG
namespace Go.Proofs.Ytonfdgbohmcpjaa
open Go.RowKit Go.ChangeShapes Go.WideShapes Go.ChangeAt

def xf (n x k : Nat) : Bool := x.testBit (if n - 1 < k then n - 1 else k)
set_option maxRecDepth 100000 in
set_option maxHeartbeats 1000000 in
theorem rextend_any (n x : Nat) (hx : x < 4294967296) (hn0 : 1 ≤ n) (hn1 : n ≤ 32) (w : World) : Calls Try.prog 16 #[.int .u32 x, .int .i64 n] w fun e w' => e = .returned (.int .u32 (Al.X n x)) ∧ w = w' := by
  have hres : ((Al.bs (xf n x) 32 : Nat) : Int) = Al.X n x := by
    refine Al.bs_word _ _ fun i hi => ?_
    show xf n x i = (Al.ext n (BitVec.ofInt 32 (x : Int))).getLsbD i
    rw [Al.ext_bit n hn0 hn1 _ i hi]
    unfold xf
    split
    · rw [ofNat_bit (by omega)]
    · rw [ofNat_bit hi]
  rw [← hres]
  clear hres
  obtain ⟨z, hz⟩ : ∃ z, z = Al.bs (xf n x) 32 := ⟨_, rfl⟩
  rw [← hz]
  have HZ := Lib.hid hz
  clear hz
  go_enter Try.func16, Try.ntmps16
  go_wp2
  go_loop [5, 6] (fun o i => ∃ k q : Nat, k ≤ 32 ∧ Hid (q = Al.bs (xf n x) k) ∧ i = .int .i64 k ∧ o = .int .u32 q) (fun _ i => 32 - (intOf i).toNat)
  case atStart => exact ⟨0, 0, Nat.zero_le _, Lib.hid rfl, rfl, rfl⟩
  case round =>
    obtain ⟨k, q, hk, hq, rfl, rfl⟩ := hrel
    by_cases hlt : k < 32
    · have HP := Lib.hid fun w => power_any k (by omega) w
      have hb : q + 2 ^ k < 4294967296 := by rw [hq.out]; exact bs_le hlt
      have hN : Al.bs (xf n x) (k + 1) = q + if xf n x k = true then 2 ^ k else 0 := by rw [hq.out]; rfl
      unfold xf at hN
      obtain ⟨pw, hpw⟩ : ∃ pw, pw = 2 ^ k := ⟨_, rfl⟩
      rw [← hpw] at HP hb hN
      clear hpw
      by_cases hf : (n : Int) - 1 < k
      · have HB := Lib.hid fun w => bit_any x (n - 1) hx (by omega) w
        rw [show ((n - 1 : Nat) : Int) = (n : Int) - 1 by omega] at HB
        rw [if_pos (show n - 1 < k by omega)] at hN
        rcases Bool.eq_false_or_eq_true (x.testBit (n - 1)) with e1 | e1
        · rw [e1] at HB hN
          have hN' : Al.bs (fun k => x.testBit (if n - 1 < k then n - 1 else k)) (k + 1) = q + pw := hN
          clear hN e1
          have HN := Lib.hid hN'
          clear hN'
          go_wp2_with (first | (go_at_call 32; refine (HB.out _).mono ?_; rintro e w1 ⟨rfl, rfl⟩) | (go_at_call 28; refine (HP.out _).mono ?_; rintro e w1 ⟨rfl, rfl⟩))
          go_round
          case rel => exact ⟨k + 1, q + pw, by omega, Lib.hid HN.out.symm, by go_num, by go_num⟩
          case measure => simp [intOf]; omega
        · rw [e1] at HB hN
          have hN' : Al.bs (fun k => x.testBit (if n - 1 < k then n - 1 else k)) (k + 1) = q := hN
          clear hN e1
          have HN := Lib.hid hN'
          clear hN'
          go_wp2_with (first | (go_at_call 32; refine (HB.out _).mono ?_; rintro e w1 ⟨rfl, rfl⟩))
          go_round
          case rel => exact ⟨k + 1, q, by omega, Lib.hid HN.out.symm, by go_num, by go_num⟩
          case measure => simp [intOf]; omega
      · have HB := Lib.hid fun w => bit_any x k hx (by omega) w
        rw [if_neg (show ¬ n - 1 < k by omega)] at hN
        rcases Bool.eq_false_or_eq_true (x.testBit k) with e1 | e1
        · rw [e1] at HB hN
          have hN' : Al.bs (fun k => x.testBit (if n - 1 < k then n - 1 else k)) (k + 1) = q + pw := hN
          clear hN e1
          have HN := Lib.hid hN'
          clear hN'
          go_wp2_with (first | (go_at_call 32; refine (HB.out _).mono ?_; rintro e w1 ⟨rfl, rfl⟩) | (go_at_call 28; refine (HP.out _).mono ?_; rintro e w1 ⟨rfl, rfl⟩))
          go_round
          case rel => exact ⟨k + 1, q + pw, by omega, Lib.hid HN.out.symm, by go_num, by go_num⟩
          case measure => simp [intOf]; omega
        · rw [e1] at HB hN
          have hN' : Al.bs (fun k => x.testBit (if n - 1 < k then n - 1 else k)) (k + 1) = q := hN
          clear hN e1
          have HN := Lib.hid hN'
          clear hN'
          go_wp2_with (first | (go_at_call 32; refine (HB.out _).mono ?_; rintro e w1 ⟨rfl, rfl⟩))
          go_round
          case rel => exact ⟨k + 1, q, by omega, Lib.hid HN.out.symm, by go_num, by go_num⟩
          case measure => simp [intOf]; omega
    · obtain rfl : k = 32 := by omega
      obtain rfl : q = z := hq.out.trans HZ.out.symm
      go_wp2
      go_ret
      exact ⟨rfl, rfl⟩
set_option maxRecDepth 100000 in
theorem rbyte_any {x : Int} (h0 : 0 ≤ x) (h1 : x < 4294967296) (k : Int) (w : World) : Calls Try.prog 20 #[.int .u32 x, .int .i64 k] w fun e w' => e = .returned (.int .u8 (Al.BY x (8 * (k % 4)))) ∧ w = w' := by
  have HP := Lib.hid fun w => rplace_any k w
  obtain ⟨j, hj⟩ := Int.eq_ofNat_of_zero_le (show 0 ≤ k % 4 by omega)
  have hj4 : j < 4 := by omega
  rw [hj] at HP ⊢
  have HW := Lib.hid fun w => power_any (8 * j) (by omega) w
  clear hj
  unfold Al.BY
  rcases (show j = 0 ∨ j = 1 ∨ j = 2 ∨ j = 3 by omega) with rfl | rfl | rfl | rfl
  · have HW' : Hid (∀ w, Calls Try.prog 28 #[.int .i64 0] w fun e w' => e = .returned (.int .u32 1) ∧ w = w') := HW
    have HP' : Hid (∀ w, Calls Try.prog 34 #[.int .i64 k] w fun e w' => e = .returned (.int .i64 0) ∧ w = w') := HP
    clear HW HP
    show Calls _ _ _ _ fun e w' => e = .returned (.int .u8 (x / 1 % 256)) ∧ w = w'
    go_enter Try.func20, Try.ntmps20
    go_wp2_with (first | (go_at_call 34; refine (HP'.out _).mono ?_; rintro e w1 ⟨rfl, rfl⟩) | (go_at_call 28; refine (HW'.out _).mono ?_; rintro e w1 ⟨rfl, rfl⟩))
    go_ret
    exact ⟨by simp, rfl⟩
  · have HW' : Hid (∀ w, Calls Try.prog 28 #[.int .i64 8] w fun e w' => e = .returned (.int .u32 256) ∧ w = w') := HW
    have HP' : Hid (∀ w, Calls Try.prog 34 #[.int .i64 k] w fun e w' => e = .returned (.int .i64 1) ∧ w = w') := HP
    clear HW HP
    show Calls _ _ _ _ fun e w' => e = .returned (.int .u8 (x / 256 % 256)) ∧ w = w'
    go_enter Try.func20, Try.ntmps20
    go_wp2_with (first | (go_at_call 34; refine (HP'.out _).mono ?_; rintro e w1 ⟨rfl, rfl⟩) | (go_at_call 28; refine (HW'.out _).mono ?_; rintro e w1 ⟨rfl, rfl⟩))
    go_ret
    exact ⟨rfl, rfl⟩
  · have HW' : Hid (∀ w, Calls Try.prog 28 #[.int .i64 16] w fun e w' => e = .returned (.int .u32 65536) ∧ w = w') := HW
    have HP' : Hid (∀ w, Calls Try.prog 34 #[.int .i64 k] w fun e w' => e = .returned (.int .i64 2) ∧ w = w') := HP
    clear HW HP
    show Calls _ _ _ _ fun e w' => e = .returned (.int .u8 (x / 65536 % 256)) ∧ w = w'
    go_enter Try.func20, Try.ntmps20
    go_wp2_with (first | (go_at_call 34; refine (HP'.out _).mono ?_; rintro e w1 ⟨rfl, rfl⟩) | (go_at_call 28; refine (HW'.out _).mono ?_; rintro e w1 ⟨rfl, rfl⟩))
    go_ret
    exact ⟨rfl, rfl⟩
  · have HW' : Hid (∀ w, Calls Try.prog 28 #[.int .i64 24] w fun e w' => e = .returned (.int .u32 16777216) ∧ w = w') := HW
    have HP' : Hid (∀ w, Calls Try.prog 34 #[.int .i64 k] w fun e w' => e = .returned (.int .i64 3) ∧ w = w') := HP
    clear HW HP
    show Calls _ _ _ _ fun e w' => e = .returned (.int .u8 (x / 16777216 % 256)) ∧ w = w'
    go_enter Try.func20, Try.ntmps20
    go_wp2_with (first | (go_at_call 34; refine (HP'.out _).mono ?_; rintro e w1 ⟨rfl, rfl⟩) | (go_at_call 28; refine (HW'.out _).mono ?_; rintro e w1 ⟨rfl, rfl⟩))
    go_ret
    exact ⟨rfl, rfl⟩
set_option maxRecDepth 100000 in
theorem rset_any {x : Int} (h0 : 0 ≤ x) (h1 : x < 4294967296) (k y : Int) (hy0 : 0 ≤ y) (hy1 : y < 256) (w : World) : Calls Try.prog 22 #[.int .u32 x, .int .i64 k, .int .u8 y] w fun e w' => e = .returned (.int .u32 (Al.SB x (8 * (k % 4)) y)) ∧ w = w' := by
  have HP := Lib.hid fun w => rplace_any k w
  have HB := Lib.hid fun w => rbyte_any h0 h1 k w
  obtain ⟨j, hj⟩ := Int.eq_ofNat_of_zero_le (show 0 ≤ k % 4 by omega)
  have hj4 : j < 4 := by omega
  rw [hj] at HP HB ⊢
  have HW := Lib.hid fun w => power_any (8 * j) (by omega) w
  clear hj
  unfold Al.SB
  unfold Al.BY at HB
  rcases (show j = 0 ∨ j = 1 ∨ j = 2 ∨ j = 3 by omega) with rfl | rfl | rfl | rfl
  · have HW' : Hid (∀ w, Calls Try.prog 28 #[.int .i64 0] w fun e w' => e = .returned (.int .u32 1) ∧ w = w') := HW
    have HP' : Hid (∀ w, Calls Try.prog 34 #[.int .i64 k] w fun e w' => e = .returned (.int .i64 0) ∧ w = w') := HP
    have HB' : Hid (∀ w, Calls Try.prog 20 #[.int .u32 x, .int .i64 k] w fun e w' => e = .returned (.int .u8 (x / 1 % 256)) ∧ w = w') := HB
    clear HW HP HB
    show Calls _ _ _ _ fun e w' => e = .returned (.int .u32 (x - x / 1 % 256 * 1 + y * 1)) ∧ w = w'
    obtain ⟨m, hm⟩ : ∃ m, m = x / 1 % 256 := ⟨_, rfl⟩
    have hm0 : 0 ≤ m ∧ m < 256 := by omega
    have hm1 : m * 1 ≤ x := by omega
    have hm2 : 0 ≤ x - m * 1 + y * 1 ∧ x - m * 1 + y * 1 < 4294967296 := by omega
    rw [← hm] at HB' ⊢
    clear hm
    go_enter Try.func22, Try.ntmps22
    go_wp2_with (first | (go_at_call 34; refine (HP'.out _).mono ?_; rintro e w1 ⟨rfl, rfl⟩) | (go_at_call 28; refine (HW'.out _).mono ?_; rintro e w1 ⟨rfl, rfl⟩) | (go_at_call 20; refine (HB'.out _).mono ?_; rintro e w1 ⟨rfl, rfl⟩))
    go_ret
    exact ⟨by simp, rfl⟩
  · have HW' : Hid (∀ w, Calls Try.prog 28 #[.int .i64 8] w fun e w' => e = .returned (.int .u32 256) ∧ w = w') := HW
    have HP' : Hid (∀ w, Calls Try.prog 34 #[.int .i64 k] w fun e w' => e = .returned (.int .i64 1) ∧ w = w') := HP
    have HB' : Hid (∀ w, Calls Try.prog 20 #[.int .u32 x, .int .i64 k] w fun e w' => e = .returned (.int .u8 (x / 256 % 256)) ∧ w = w') := HB
    clear HW HP HB
    show Calls _ _ _ _ fun e w' => e = .returned (.int .u32 (x - x / 256 % 256 * 256 + y * 256)) ∧ w = w'
    obtain ⟨m, hm⟩ : ∃ m, m = x / 256 % 256 := ⟨_, rfl⟩
    have hm0 : 0 ≤ m ∧ m < 256 := by omega
    have hm1 : m * 256 ≤ x := by omega
    have hm2 : 0 ≤ x - m * 256 + y * 256 ∧ x - m * 256 + y * 256 < 4294967296 := by omega
    rw [← hm] at HB' ⊢
    clear hm
    go_enter Try.func22, Try.ntmps22
    go_wp2_with (first | (go_at_call 34; refine (HP'.out _).mono ?_; rintro e w1 ⟨rfl, rfl⟩) | (go_at_call 28; refine (HW'.out _).mono ?_; rintro e w1 ⟨rfl, rfl⟩) | (go_at_call 20; refine (HB'.out _).mono ?_; rintro e w1 ⟨rfl, rfl⟩))
    go_ret
    exact ⟨rfl, rfl⟩
  · have HW' : Hid (∀ w, Calls Try.prog 28 #[.int .i64 16] w fun e w' => e = .returned (.int .u32 65536) ∧ w = w') := HW
    have HP' : Hid (∀ w, Calls Try.prog 34 #[.int .i64 k] w fun e w' => e = .returned (.int .i64 2) ∧ w = w') := HP
    have HB' : Hid (∀ w, Calls Try.prog 20 #[.int .u32 x, .int .i64 k] w fun e w' => e = .returned (.int .u8 (x / 65536 % 256)) ∧ w = w') := HB
    clear HW HP HB
    show Calls _ _ _ _ fun e w' => e = .returned (.int .u32 (x - x / 65536 % 256 * 65536 + y * 65536)) ∧ w = w'
    obtain ⟨m, hm⟩ : ∃ m, m = x / 65536 % 256 := ⟨_, rfl⟩
    have hm0 : 0 ≤ m ∧ m < 256 := by omega
    have hm1 : m * 65536 ≤ x := by omega
    have hm2 : 0 ≤ x - m * 65536 + y * 65536 ∧ x - m * 65536 + y * 65536 < 4294967296 := by omega
    rw [← hm] at HB' ⊢
    clear hm
    go_enter Try.func22, Try.ntmps22
    go_wp2_with (first | (go_at_call 34; refine (HP'.out _).mono ?_; rintro e w1 ⟨rfl, rfl⟩) | (go_at_call 28; refine (HW'.out _).mono ?_; rintro e w1 ⟨rfl, rfl⟩) | (go_at_call 20; refine (HB'.out _).mono ?_; rintro e w1 ⟨rfl, rfl⟩))
    go_ret
    exact ⟨rfl, rfl⟩
  · have HW' : Hid (∀ w, Calls Try.prog 28 #[.int .i64 24] w fun e w' => e = .returned (.int .u32 16777216) ∧ w = w') := HW
    have HP' : Hid (∀ w, Calls Try.prog 34 #[.int .i64 k] w fun e w' => e = .returned (.int .i64 3) ∧ w = w') := HP
    have HB' : Hid (∀ w, Calls Try.prog 20 #[.int .u32 x, .int .i64 k] w fun e w' => e = .returned (.int .u8 (x / 16777216 % 256)) ∧ w = w') := HB
    clear HW HP HB
    show Calls _ _ _ _ fun e w' => e = .returned (.int .u32 (x - x / 16777216 % 256 * 16777216 + y * 16777216)) ∧ w = w'
    obtain ⟨m, hm⟩ : ∃ m, m = x / 16777216 % 256 := ⟨_, rfl⟩
    have hm0 : 0 ≤ m ∧ m < 256 := by omega
    have hm1 : m * 16777216 ≤ x := by omega
    have hm2 : 0 ≤ x - m * 16777216 + y * 16777216 ∧ x - m * 16777216 + y * 16777216 < 4294967296 := by omega
    rw [← hm] at HB' ⊢
    clear hm
    go_enter Try.func22, Try.ntmps22
    go_wp2_with (first | (go_at_call 34; refine (HP'.out _).mono ?_; rintro e w1 ⟨rfl, rfl⟩) | (go_at_call 28; refine (HW'.out _).mono ?_; rintro e w1 ⟨rfl, rfl⟩) | (go_at_call 20; refine (HB'.out _).mono ?_; rintro e w1 ⟨rfl, rfl⟩))
    go_ret
    exact ⟨rfl, rfl⟩
end Go.Proofs.Ytonfdgbohmcpjaa
