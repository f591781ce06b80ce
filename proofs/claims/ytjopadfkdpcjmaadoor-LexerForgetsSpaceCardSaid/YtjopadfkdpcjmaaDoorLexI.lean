/-
  THE WALKS OF the reference's letter, digit, hexadecimal, sign, run.
-/
import Derived.Test.YtjopadfkdpcjmaaDoorLexG
namespace Go.Proofs.YtjopadfkdpcjmaaDoor
open Go.RowKit Go.ChangeShapes Go.WideShapes Go.ChangeAt

set_option maxRecDepth 100000 in
theorem digit_any (b : UInt8) (w : World) : Calls Tryd.prog 49 #[.int .u8 b.toNat] w fun e w' => e = .returned (.bool (Lx.digitB b)) ∧ w' = w := by
  by_cases h1 : (48 : Int) ≤ (b.toNat : Int)
  · have d1 : decide ((48 : Int) ≤ (b.toNat : Int)) = true := decide_eq_true h1
    go_enter Tryd.func49, Tryd.ntmps49
    go_wp2
    go_ret
    exact ⟨ret_bool (by unfold Lx.digitB; rw [decide_eq_decide]; omega), rfl⟩
  · have d1 : decide ((48 : Int) ≤ (b.toNat : Int)) = false := decide_eq_false h1
    go_enter Tryd.func49, Tryd.ntmps49
    go_wp2
    go_ret
    exact ⟨ret_bool (by unfold Lx.digitB; symm; rw [decide_eq_false_iff_not]; omega), rfl⟩

set_option maxRecDepth 100000 in
set_option maxHeartbeats 1000000 in
theorem letter_any (b : UInt8) (w : World) : Calls Tryd.prog 33 #[.int .u8 b.toNat] w fun e w' => e = .returned (.bool (Lx.letterB b)) ∧ w' = w := by
  obtain ⟨n, hn⟩ : ∃ n, b.toNat = n := ⟨_, rfl⟩
  have hl : Lx.letterB b = (decide (97 ≤ n ∧ n ≤ 122) || (decide (65 ≤ n ∧ n ≤ 90) || (decide (n = 95) || decide (n = 46)))) := by unfold Lx.letterB; rw [hn]
  rw [hl, hn]
  clear hl
  have b1 : ((n : Int) == 95) = decide (n = 95) := by rw [Bool.eq_iff_iff, beq_iff_eq, decide_eq_true_eq]; omega
  have b2 : ((n : Int) == 46) = decide (n = 46) := by rw [Bool.eq_iff_iff, beq_iff_eq, decide_eq_true_eq]; omega
  rcases (show (n < 65 ∨ 65 ≤ n ∧ n < 91 ∨ 91 ≤ n ∧ n < 97 ∨ 97 ≤ n ∧ n < 123 ∨ 123 ≤ n) by omega) with h | h | h | h | h
  · have d1 : decide ((97 : Int) ≤ (n : Int)) = false := decide_eq_false (by omega)
    have d2 : decide ((65 : Int) ≤ (n : Int)) = false := decide_eq_false (by omega)
    rw [decide_eq_false (show ¬ n = 95 by omega)] at b1
    by_cases h46 : n = 46
    · rw [decide_eq_true h46] at b2
      rw [show (decide (97 ≤ n ∧ n ≤ 122) || (decide (65 ≤ n ∧ n ≤ 90) || (decide (n = 95) || decide (n = 46)))) = true by simp [h46]]
      go_enter Tryd.func33, Tryd.ntmps33
      go_wp2
      go_ret
      exact ⟨rfl, rfl⟩
    · rw [decide_eq_false h46] at b2
      rw [show (decide (97 ≤ n ∧ n ≤ 122) || (decide (65 ≤ n ∧ n ≤ 90) || (decide (n = 95) || decide (n = 46)))) = false by simp; omega]
      go_enter Tryd.func33, Tryd.ntmps33
      go_wp2
      go_ret
      exact ⟨rfl, rfl⟩
  · have d1 : decide ((97 : Int) ≤ (n : Int)) = false := decide_eq_false (by omega)
    have d2 : decide ((65 : Int) ≤ (n : Int)) = true := decide_eq_true (by omega)
    have d3 : decide ((n : Int) ≤ 90) = true := decide_eq_true (by omega)
    rw [show (decide (97 ≤ n ∧ n ≤ 122) || (decide (65 ≤ n ∧ n ≤ 90) || (decide (n = 95) || decide (n = 46)))) = true by simp; omega]
    clear b1 b2
    go_enter Tryd.func33, Tryd.ntmps33
    go_wp2
    go_ret
    exact ⟨rfl, rfl⟩
  · have d1 : decide ((97 : Int) ≤ (n : Int)) = false := decide_eq_false (by omega)
    have d2 : decide ((65 : Int) ≤ (n : Int)) = true := decide_eq_true (by omega)
    have d3 : decide ((n : Int) ≤ 90) = false := decide_eq_false (by omega)
    rw [decide_eq_false (show ¬ n = 46 by omega)] at b2
    by_cases h95 : n = 95
    · rw [decide_eq_true h95] at b1
      rw [show (decide (97 ≤ n ∧ n ≤ 122) || (decide (65 ≤ n ∧ n ≤ 90) || (decide (n = 95) || decide (n = 46)))) = true by simp [h95]]
      go_enter Tryd.func33, Tryd.ntmps33
      go_wp2
      go_ret
      exact ⟨rfl, rfl⟩
    · rw [decide_eq_false h95] at b1
      rw [show (decide (97 ≤ n ∧ n ≤ 122) || (decide (65 ≤ n ∧ n ≤ 90) || (decide (n = 95) || decide (n = 46)))) = false by simp; omega]
      go_enter Tryd.func33, Tryd.ntmps33
      go_wp2
      go_ret
      exact ⟨rfl, rfl⟩
  · have d1 : decide ((97 : Int) ≤ (n : Int)) = true := decide_eq_true (by omega)
    have d2 : decide ((n : Int) ≤ 122) = true := decide_eq_true (by omega)
    rw [show (decide (97 ≤ n ∧ n ≤ 122) || (decide (65 ≤ n ∧ n ≤ 90) || (decide (n = 95) || decide (n = 46)))) = true by simp; omega]
    clear b1 b2
    go_enter Tryd.func33, Tryd.ntmps33
    go_wp2
    go_ret
    exact ⟨rfl, rfl⟩
  · have d1 : decide ((97 : Int) ≤ (n : Int)) = true := decide_eq_true (by omega)
    have d2 : decide ((n : Int) ≤ 122) = false := decide_eq_false (by omega)
    have d3 : decide ((65 : Int) ≤ (n : Int)) = true := decide_eq_true (by omega)
    have d4 : decide ((n : Int) ≤ 90) = false := decide_eq_false (by omega)
    rw [decide_eq_false (show ¬ n = 46 by omega)] at b2
    rw [decide_eq_false (show ¬ n = 95 by omega)] at b1
    rw [show (decide (97 ≤ n ∧ n ≤ 122) || (decide (65 ≤ n ∧ n ≤ 90) || (decide (n = 95) || decide (n = 46)))) = false by simp; omega]
    go_enter Tryd.func33, Tryd.ntmps33
    go_wp2
    go_ret
    exact ⟨rfl, rfl⟩

/-- A hexadecimal digit's value, -1 for another byte. -/
def hexI (b : UInt8) : Int := if Lx.hexV b < 16 then (Lx.hexV b : Int) else -1
set_option maxRecDepth 100000 in
theorem hexadecimal_any (b : UInt8) (w : World) : Calls Tryd.prog 68 #[.int .u8 b.toNat] w fun e w' => e = .returned (.int .i64 (hexI b)) ∧ w' = w := by
  have HD := Lib.hid fun w' => digit_any b w'
  obtain ⟨n, hn⟩ : ∃ n, b.toNat = n := ⟨_, rfl⟩
  have hn2 : n < 256 := by rw [← hn]; exact b.toNat_lt
  have hh : hexI b = if 48 ≤ n ∧ n ≤ 57 then (n : Int) - 48 else if 97 ≤ n ∧ n ≤ 102 then (n : Int) - 87 else -1 := by
    unfold hexI Lx.hexV
    rw [hn]
    by_cases h1 : 48 ≤ n ∧ n ≤ 57
    · rw [if_pos h1, if_pos h1, if_pos (by omega)]; omega
    · rw [if_neg h1, if_neg h1]
      by_cases h2 : 97 ≤ n ∧ n ≤ 102
      · rw [if_pos h2, if_pos h2, if_pos (by omega)]; omega
      · rw [if_neg h2, if_neg h2, if_neg (by omega)]
  have hd : Lx.digitB b = decide (48 ≤ n ∧ n ≤ 57) := by unfold Lx.digitB; rw [hn]
  rw [hd, hn] at HD
  rw [hh, hn]
  clear hd hh hn
  by_cases h1 : 48 ≤ n ∧ n ≤ 57
  · rw [decide_eq_true h1] at HD
    rw [if_pos h1]
    have hw8 : IntKind.u8.wrap ((n : Int) - 48) = (n : Int) - 48 := by rw [IntKind.wrap_u8]; omega
    go_enter Tryd.func68, Tryd.ntmps68
    go_wp2_with (go_at_call 49; refine (HD.out _).mono ?_; rintro e w' ⟨rfl, rfl⟩)
    go_ret
    exact ⟨rfl, rfl⟩
  · rw [decide_eq_false h1] at HD
    rw [if_neg h1]
    by_cases h2 : 97 ≤ n
    · have d2 : decide ((97 : Int) ≤ (n : Int)) = true := decide_eq_true (by omega)
      by_cases h3 : n ≤ 102
      · rw [if_pos ⟨h2, h3⟩]
        have d3 : decide ((n : Int) ≤ 102) = true := decide_eq_true (by omega)
        have hw8 : IntKind.u8.wrap ((n : Int) - 97) = (n : Int) - 97 := by rw [IntKind.wrap_u8]; omega
        go_enter Tryd.func68, Tryd.ntmps68
        go_wp2_with (go_at_call 49; refine (HD.out _).mono ?_; rintro e w' ⟨rfl, rfl⟩)
        go_ret
        exact ⟨ret_int (by omega), rfl⟩
      · rw [if_neg (fun h => h3 h.2)]
        have d3 : decide ((n : Int) ≤ 102) = false := decide_eq_false (by omega)
        go_enter Tryd.func68, Tryd.ntmps68
        go_wp2_with (go_at_call 49; refine (HD.out _).mono ?_; rintro e w' ⟨rfl, rfl⟩)
        go_ret
        exact ⟨rfl, rfl⟩
    · rw [if_neg (fun h => h2 h.1)]
      have d2 : decide ((97 : Int) ≤ (n : Int)) = false := decide_eq_false (by omega)
      go_enter Tryd.func68, Tryd.ntmps68
      go_wp2_with (go_at_call 49; refine (HD.out _).mono ?_; rintro e w' ⟨rfl, rfl⟩)
      go_ret
      exact ⟨rfl, rfl⟩

def signS : ByteArray := ⟨#[44, 58, 40, 41, 91, 93, 123, 125, 61, 43, 45, 42, 47, 60, 62, 64, 124, 38, 33]⟩
set_option maxRecDepth 100000 in
set_option maxHeartbeats 1000000 in
theorem sign_any (b : UInt8) (w : World) : Calls Tryd.prog 35 #[.int .u8 b.toNat] w fun e w' => e = .returned (.bool (Lx.signB b)) ∧ w' = w := by
  obtain ⟨R, hR⟩ : ∃ R, Lx.signB b = R := ⟨_, rfl⟩
  have HRR := Lib.hid hR
  rw [hR]
  clear hR
  go_enter Tryd.func35, Tryd.ntmps35
  go_wp2
  obtain ⟨sg, hsg⟩ : ∃ sg : ByteArray, sg = ⟨#[44, 58, 40, 41, 91, 93, 123, 125, 61, 43, 45, 42, 47, 60, 62, 64, 124, 38, 33]⟩ := ⟨_, rfl⟩
  have hsz : sg.size = 19 := by rw [hsg]; rfl
  have hLs : L sg = Lx.signL := by rw [hsg]; rfl
  rw [← hsg]
  clear hsg
  have hb : b.toNat < 256 := b.toNat_lt
  go_loopw [4] (fun i wr => ∃ k : Nat, k ≤ 19 ∧ i = .int .i64 k ∧ Lx.signB b = (Lx.signL.drop k).contains b ∧ wr = w) (fun i _ => 19 - (intOf i).toNat)
  case atStart => exact ⟨0, by omega, rfl, rfl, rfl⟩
  case round =>
    obtain ⟨k, hk, rfl, hc, rfl⟩ := hrel
    by_cases hlt : k < 19
    · obtain ⟨x, hx⟩ : ∃ x, sg[k]'(by omega) = x := ⟨_, rfl⟩
      have hks : k < sg.size := by omega
      have hxl : Lx.signL.drop k = x :: Lx.signL.drop (k + 1) := by
        rw [← hLs, List.drop_eq_getElem_cons (by rw [L_len]; exact hks), ← L_get sg k hks, hx]
      rw [hxl, List.contains_cons] at hc
      have HC := Lib.hid hc
      clear hc hxl
      by_cases he : b = x
      · subst he
        have e1 : ((b.toNat : Int) == (b.toNat : Int)) = true := beq_self_eq_true _
        go_wp2
        go_ret
        refine ⟨ret_bool ?_, rfl⟩
        rw [← HRR.out, HC.out]
        simp
      · have e1 : ((x.toNat : Int) == (b.toNat : Int)) = false := by
          rw [beq_eq_false_iff_ne]
          intro h
          exact he (UInt8.toNat_inj.1 (by omega))
        go_wp2
        go_roundw
        case rel => exact ⟨k + 1, by omega, by go_num, by rw [HC.out, show (b == x) = false by simpa using he, Bool.false_or], trivial⟩
        case measure => simp [intOf]; omega
    · obtain rfl : k = 19 := by omega
      have HC := Lib.hid hc
      clear hc
      go_wp2
      go_ret
      refine ⟨ret_bool ?_, rfl⟩
      rw [← HRR.out, HC.out]
      rfl
end Go.Proofs.YtjopadfkdpcjmaaDoor
