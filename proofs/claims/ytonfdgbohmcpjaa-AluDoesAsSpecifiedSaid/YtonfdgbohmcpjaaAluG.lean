/-
  THE WALKS OF the reference: logic, Extend, Byte, SetByte, Do, Taken.
-/
import Derived.Test.YtonfdgbohmcpjaaAluF
namespace Go.Proofs.Ytonfdgbohmcpjaa
open Go.RowKit Go.ChangeShapes Go.WideShapes Go.ChangeAt

theorem ofNat_bit {n i : Nat} (hi : i < 32) : (BitVec.ofInt 32 (n : Int)).getLsbD i = n.testBit i := by
  rw [BitVec.ofInt_natCast, BitVec.getLsbD_ofNat, decide_eq_true hi, Bool.true_and]
theorem bs_le {f : Nat → Bool} {k : Nat} (hk : k < 32) : Al.bs f k + 2 ^ k < 4294967296 := by
  have h1 := Al.bs_lt f k
  have h2 := two_pow_le (show k ≤ 31 by omega)
  omega
def lf3 (n m k : Nat) : Bool := n.testBit k && m.testBit k
set_option maxRecDepth 100000 in
set_option maxHeartbeats 1000000 in
theorem rlogic3_any (n m : Nat) (hn : n < 4294967296) (hm : m < 4294967296) (w : World) : Calls Try.prog 27 #[.int .i64 3, .int .u32 n, .int .u32 m] w fun e w' => e = .returned (.int .u32 (Al.I 3 n m)) ∧ w = w' := by
  have hres : ((Al.bs (lf3 n m) 32 : Nat) : Int) = Al.I 3 n m := by
    refine Al.bs_word _ _ fun i hi => ?_
    show lf3 n m i = ((BitVec.ofInt 32 (n : Int)) &&& (BitVec.ofInt 32 (m : Int))).getLsbD i
    rw [BitVec.getLsbD_and, ofNat_bit hi, ofNat_bit hi]
    rfl
  rw [← hres]
  clear hres
  obtain ⟨z, hz⟩ : ∃ z, z = Al.bs (lf3 n m) 32 := ⟨_, rfl⟩
  rw [← hz]
  have HZ := Lib.hid hz
  clear hz
  go_enter Try.func27, Try.ntmps27
  go_wp2
  go_loop [7, 8] (fun o i => ∃ k q : Nat, k ≤ 32 ∧ Hid (q = Al.bs (lf3 n m) k) ∧ i = .int .i64 k ∧ o = .int .u32 q) (fun _ i => 32 - (intOf i).toNat)
  case atStart => exact ⟨0, 0, Nat.zero_le _, Lib.hid rfl, rfl, rfl⟩
  case round =>
    obtain ⟨k, q, hk, hq, rfl, rfl⟩ := hrel
    by_cases hlt : k < 32
    · have HB1 := Lib.hid fun w => bit_any n k hn (by omega) w
      have HB2 := Lib.hid fun w => bit_any m k hm (by omega) w
      have HP := Lib.hid fun w => power_any k (by omega) w
      have hb : q + 2 ^ k < 4294967296 := by rw [hq.out]; exact bs_le hlt
      have hN : Al.bs (lf3 n m) (k + 1) = q + if lf3 n m k = true then 2 ^ k else 0 := by rw [hq.out]; rfl
      unfold lf3 at hN
      obtain ⟨pw, hpw⟩ : ∃ pw, pw = 2 ^ k := ⟨_, rfl⟩
      rw [← hpw] at HP hb hN
      clear hpw
      rcases Bool.eq_false_or_eq_true (n.testBit k) with e1 | e1 <;> rcases Bool.eq_false_or_eq_true (m.testBit k) with e2 | e2
      · rw [e1] at HB1 hN
        rw [e2] at HB2 hN
        have hN' : Al.bs (fun k => n.testBit k && m.testBit k) (k + 1) = q + pw := hN
        clear hN e1 e2
        have HN := Lib.hid hN'
        clear hN'
        go_wp2_with (first | (go_at_call 32; first | (with_reducible refine (HB1.out _).mono ?_; rintro e w1 ⟨rfl, rfl⟩) | (with_reducible refine (HB2.out _).mono ?_; rintro e w1 ⟨rfl, rfl⟩)) | (go_at_call 28; refine (HP.out _).mono ?_; rintro e w1 ⟨rfl, rfl⟩))
        go_round
        case rel => exact ⟨k + 1, q + pw, by omega, Lib.hid HN.out.symm, by go_num, by go_num⟩
        case measure => simp [intOf]; omega
      · rw [e1] at HB1 hN
        rw [e2] at HB2 hN
        have hN' : Al.bs (fun k => n.testBit k && m.testBit k) (k + 1) = q := hN
        clear hN e1 e2
        have HN := Lib.hid hN'
        clear hN'
        go_wp2_with (first | (go_at_call 32; first | (with_reducible refine (HB1.out _).mono ?_; rintro e w1 ⟨rfl, rfl⟩) | (with_reducible refine (HB2.out _).mono ?_; rintro e w1 ⟨rfl, rfl⟩)))
        go_round
        case rel => exact ⟨k + 1, q, by omega, Lib.hid HN.out.symm, by go_num, by go_num⟩
        case measure => simp [intOf]; omega
      · rw [e1] at HB1 hN
        rw [e2] at HB2 hN
        have hN' : Al.bs (fun k => n.testBit k && m.testBit k) (k + 1) = q := hN
        clear hN e1 e2
        have HN := Lib.hid hN'
        clear hN'
        go_wp2_with (first | (go_at_call 32; first | (with_reducible refine (HB1.out _).mono ?_; rintro e w1 ⟨rfl, rfl⟩) | (with_reducible refine (HB2.out _).mono ?_; rintro e w1 ⟨rfl, rfl⟩)))
        go_round
        case rel => exact ⟨k + 1, q, by omega, Lib.hid HN.out.symm, by go_num, by go_num⟩
        case measure => simp [intOf]; omega
      · rw [e1] at HB1 hN
        rw [e2] at HB2 hN
        have hN' : Al.bs (fun k => n.testBit k && m.testBit k) (k + 1) = q := hN
        clear hN e1 e2
        have HN := Lib.hid hN'
        clear hN'
        go_wp2_with (first | (go_at_call 32; first | (with_reducible refine (HB1.out _).mono ?_; rintro e w1 ⟨rfl, rfl⟩) | (with_reducible refine (HB2.out _).mono ?_; rintro e w1 ⟨rfl, rfl⟩)))
        go_round
        case rel => exact ⟨k + 1, q, by omega, Lib.hid HN.out.symm, by go_num, by go_num⟩
        case measure => simp [intOf]; omega
    · obtain rfl : k = 32 := by omega
      obtain rfl : q = z := hq.out.trans HZ.out.symm
      go_wp2
      go_ret
      exact ⟨rfl, rfl⟩
def lf4 (n m k : Nat) : Bool := n.testBit k || m.testBit k
set_option maxRecDepth 100000 in
set_option maxHeartbeats 1000000 in
theorem rlogic4_any (n m : Nat) (hn : n < 4294967296) (hm : m < 4294967296) (w : World) : Calls Try.prog 27 #[.int .i64 4, .int .u32 n, .int .u32 m] w fun e w' => e = .returned (.int .u32 (Al.I 4 n m)) ∧ w = w' := by
  have hres : ((Al.bs (lf4 n m) 32 : Nat) : Int) = Al.I 4 n m := by
    refine Al.bs_word _ _ fun i hi => ?_
    show lf4 n m i = ((BitVec.ofInt 32 (n : Int)) ||| (BitVec.ofInt 32 (m : Int))).getLsbD i
    rw [BitVec.getLsbD_or, ofNat_bit hi, ofNat_bit hi]
    rfl
  rw [← hres]
  clear hres
  obtain ⟨z, hz⟩ : ∃ z, z = Al.bs (lf4 n m) 32 := ⟨_, rfl⟩
  rw [← hz]
  have HZ := Lib.hid hz
  clear hz
  go_enter Try.func27, Try.ntmps27
  go_wp2
  go_loop [7, 8] (fun o i => ∃ k q : Nat, k ≤ 32 ∧ Hid (q = Al.bs (lf4 n m) k) ∧ i = .int .i64 k ∧ o = .int .u32 q) (fun _ i => 32 - (intOf i).toNat)
  case atStart => exact ⟨0, 0, Nat.zero_le _, Lib.hid rfl, rfl, rfl⟩
  case round =>
    obtain ⟨k, q, hk, hq, rfl, rfl⟩ := hrel
    by_cases hlt : k < 32
    · have HB1 := Lib.hid fun w => bit_any n k hn (by omega) w
      have HB2 := Lib.hid fun w => bit_any m k hm (by omega) w
      have HP := Lib.hid fun w => power_any k (by omega) w
      have hb : q + 2 ^ k < 4294967296 := by rw [hq.out]; exact bs_le hlt
      have hN : Al.bs (lf4 n m) (k + 1) = q + if lf4 n m k = true then 2 ^ k else 0 := by rw [hq.out]; rfl
      unfold lf4 at hN
      obtain ⟨pw, hpw⟩ : ∃ pw, pw = 2 ^ k := ⟨_, rfl⟩
      rw [← hpw] at HP hb hN
      clear hpw
      rcases Bool.eq_false_or_eq_true (n.testBit k) with e1 | e1 <;> rcases Bool.eq_false_or_eq_true (m.testBit k) with e2 | e2
      · rw [e1] at HB1 hN
        rw [e2] at HB2 hN
        have hN' : Al.bs (fun k => n.testBit k || m.testBit k) (k + 1) = q + pw := hN
        clear hN e1 e2
        have HN := Lib.hid hN'
        clear hN'
        go_wp2_with (first | (go_at_call 32; first | (with_reducible refine (HB1.out _).mono ?_; rintro e w1 ⟨rfl, rfl⟩) | (with_reducible refine (HB2.out _).mono ?_; rintro e w1 ⟨rfl, rfl⟩)) | (go_at_call 28; refine (HP.out _).mono ?_; rintro e w1 ⟨rfl, rfl⟩))
        go_round
        case rel => exact ⟨k + 1, q + pw, by omega, Lib.hid HN.out.symm, by go_num, by go_num⟩
        case measure => simp [intOf]; omega
      · rw [e1] at HB1 hN
        rw [e2] at HB2 hN
        have hN' : Al.bs (fun k => n.testBit k || m.testBit k) (k + 1) = q + pw := hN
        clear hN e1 e2
        have HN := Lib.hid hN'
        clear hN'
        go_wp2_with (first | (go_at_call 32; first | (with_reducible refine (HB1.out _).mono ?_; rintro e w1 ⟨rfl, rfl⟩) | (with_reducible refine (HB2.out _).mono ?_; rintro e w1 ⟨rfl, rfl⟩)) | (go_at_call 28; refine (HP.out _).mono ?_; rintro e w1 ⟨rfl, rfl⟩))
        go_round
        case rel => exact ⟨k + 1, q + pw, by omega, Lib.hid HN.out.symm, by go_num, by go_num⟩
        case measure => simp [intOf]; omega
      · rw [e1] at HB1 hN
        rw [e2] at HB2 hN
        have hN' : Al.bs (fun k => n.testBit k || m.testBit k) (k + 1) = q + pw := hN
        clear hN e1 e2
        have HN := Lib.hid hN'
        clear hN'
        go_wp2_with (first | (go_at_call 32; first | (with_reducible refine (HB1.out _).mono ?_; rintro e w1 ⟨rfl, rfl⟩) | (with_reducible refine (HB2.out _).mono ?_; rintro e w1 ⟨rfl, rfl⟩)) | (go_at_call 28; refine (HP.out _).mono ?_; rintro e w1 ⟨rfl, rfl⟩))
        go_round
        case rel => exact ⟨k + 1, q + pw, by omega, Lib.hid HN.out.symm, by go_num, by go_num⟩
        case measure => simp [intOf]; omega
      · rw [e1] at HB1 hN
        rw [e2] at HB2 hN
        have hN' : Al.bs (fun k => n.testBit k || m.testBit k) (k + 1) = q := hN
        clear hN e1 e2
        have HN := Lib.hid hN'
        clear hN'
        go_wp2_with (first | (go_at_call 32; first | (with_reducible refine (HB1.out _).mono ?_; rintro e w1 ⟨rfl, rfl⟩) | (with_reducible refine (HB2.out _).mono ?_; rintro e w1 ⟨rfl, rfl⟩)))
        go_round
        case rel => exact ⟨k + 1, q, by omega, Lib.hid HN.out.symm, by go_num, by go_num⟩
        case measure => simp [intOf]; omega
    · obtain rfl : k = 32 := by omega
      obtain rfl : q = z := hq.out.trans HZ.out.symm
      go_wp2
      go_ret
      exact ⟨rfl, rfl⟩
def lf5 (n m k : Nat) : Bool := n.testBit k ^^ m.testBit k
set_option maxRecDepth 100000 in
set_option maxHeartbeats 1000000 in
theorem rlogic5_any (n m : Nat) (hn : n < 4294967296) (hm : m < 4294967296) (w : World) : Calls Try.prog 27 #[.int .i64 5, .int .u32 n, .int .u32 m] w fun e w' => e = .returned (.int .u32 (Al.I 5 n m)) ∧ w = w' := by
  have hres : ((Al.bs (lf5 n m) 32 : Nat) : Int) = Al.I 5 n m := by
    refine Al.bs_word _ _ fun i hi => ?_
    show lf5 n m i = ((BitVec.ofInt 32 (n : Int)) ^^^ (BitVec.ofInt 32 (m : Int))).getLsbD i
    rw [BitVec.getLsbD_xor, ofNat_bit hi, ofNat_bit hi]
    rfl
  rw [← hres]
  clear hres
  obtain ⟨z, hz⟩ : ∃ z, z = Al.bs (lf5 n m) 32 := ⟨_, rfl⟩
  rw [← hz]
  have HZ := Lib.hid hz
  clear hz
  go_enter Try.func27, Try.ntmps27
  go_wp2
  go_loop [7, 8] (fun o i => ∃ k q : Nat, k ≤ 32 ∧ Hid (q = Al.bs (lf5 n m) k) ∧ i = .int .i64 k ∧ o = .int .u32 q) (fun _ i => 32 - (intOf i).toNat)
  case atStart => exact ⟨0, 0, Nat.zero_le _, Lib.hid rfl, rfl, rfl⟩
  case round =>
    obtain ⟨k, q, hk, hq, rfl, rfl⟩ := hrel
    by_cases hlt : k < 32
    · have HB1 := Lib.hid fun w => bit_any n k hn (by omega) w
      have HB2 := Lib.hid fun w => bit_any m k hm (by omega) w
      have HP := Lib.hid fun w => power_any k (by omega) w
      have hb : q + 2 ^ k < 4294967296 := by rw [hq.out]; exact bs_le hlt
      have hN : Al.bs (lf5 n m) (k + 1) = q + if lf5 n m k = true then 2 ^ k else 0 := by rw [hq.out]; rfl
      unfold lf5 at hN
      obtain ⟨pw, hpw⟩ : ∃ pw, pw = 2 ^ k := ⟨_, rfl⟩
      rw [← hpw] at HP hb hN
      clear hpw
      rcases Bool.eq_false_or_eq_true (n.testBit k) with e1 | e1 <;> rcases Bool.eq_false_or_eq_true (m.testBit k) with e2 | e2
      · rw [e1] at HB1 hN
        rw [e2] at HB2 hN
        have hN' : Al.bs (fun k => n.testBit k ^^ m.testBit k) (k + 1) = q := hN
        clear hN e1 e2
        have HN := Lib.hid hN'
        clear hN'
        go_wp2_with (first | (go_at_call 32; first | (with_reducible refine (HB1.out _).mono ?_; rintro e w1 ⟨rfl, rfl⟩) | (with_reducible refine (HB2.out _).mono ?_; rintro e w1 ⟨rfl, rfl⟩)))
        go_round
        case rel => exact ⟨k + 1, q, by omega, Lib.hid HN.out.symm, by go_num, by go_num⟩
        case measure => simp [intOf]; omega
      · rw [e1] at HB1 hN
        rw [e2] at HB2 hN
        have hN' : Al.bs (fun k => n.testBit k ^^ m.testBit k) (k + 1) = q + pw := hN
        clear hN e1 e2
        have HN := Lib.hid hN'
        clear hN'
        go_wp2_with (first | (go_at_call 32; first | (with_reducible refine (HB1.out _).mono ?_; rintro e w1 ⟨rfl, rfl⟩) | (with_reducible refine (HB2.out _).mono ?_; rintro e w1 ⟨rfl, rfl⟩)) | (go_at_call 28; refine (HP.out _).mono ?_; rintro e w1 ⟨rfl, rfl⟩))
        go_round
        case rel => exact ⟨k + 1, q + pw, by omega, Lib.hid HN.out.symm, by go_num, by go_num⟩
        case measure => simp [intOf]; omega
      · rw [e1] at HB1 hN
        rw [e2] at HB2 hN
        have hN' : Al.bs (fun k => n.testBit k ^^ m.testBit k) (k + 1) = q + pw := hN
        clear hN e1 e2
        have HN := Lib.hid hN'
        clear hN'
        go_wp2_with (first | (go_at_call 32; first | (with_reducible refine (HB1.out _).mono ?_; rintro e w1 ⟨rfl, rfl⟩) | (with_reducible refine (HB2.out _).mono ?_; rintro e w1 ⟨rfl, rfl⟩)) | (go_at_call 28; refine (HP.out _).mono ?_; rintro e w1 ⟨rfl, rfl⟩))
        go_round
        case rel => exact ⟨k + 1, q + pw, by omega, Lib.hid HN.out.symm, by go_num, by go_num⟩
        case measure => simp [intOf]; omega
      · rw [e1] at HB1 hN
        rw [e2] at HB2 hN
        have hN' : Al.bs (fun k => n.testBit k ^^ m.testBit k) (k + 1) = q := hN
        clear hN e1 e2
        have HN := Lib.hid hN'
        clear hN'
        go_wp2_with (first | (go_at_call 32; first | (with_reducible refine (HB1.out _).mono ?_; rintro e w1 ⟨rfl, rfl⟩) | (with_reducible refine (HB2.out _).mono ?_; rintro e w1 ⟨rfl, rfl⟩)))
        go_round
        case rel => exact ⟨k + 1, q, by omega, Lib.hid HN.out.symm, by go_num, by go_num⟩
        case measure => simp [intOf]; omega
    · obtain rfl : k = 32 := by omega
      obtain rfl : q = z := hq.out.trans HZ.out.symm
      go_wp2
      go_ret
      exact ⟨rfl, rfl⟩
end Go.Proofs.Ytonfdgbohmcpjaa
