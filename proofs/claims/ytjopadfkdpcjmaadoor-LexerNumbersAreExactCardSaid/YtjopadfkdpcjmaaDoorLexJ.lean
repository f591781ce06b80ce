/-
  THE WALKS OF the reference's run, Number.
-/
import Derived.Test.YtjopadfkdpcjmaaDoorLexI
namespace Go.Proofs.YtjopadfkdpcjmaaDoor
open Go.RowKit Go.ChangeShapes Go.WideShapes Go.ChangeAt

theorem word_step {l : Lx.Str} {q : Nat} (h : q < l.length) (hw : Lx.wordB l[q] = true) : (Lx.word (l.drop q)).length = (Lx.word (l.drop (q + 1))).length + 1 := by
  rw [Lx.drop_at h]
  unfold Lx.word
  rw [List.takeWhile_cons, if_pos hw]; rfl
theorem word_stop {l : Lx.Str} {q : Nat} (h : q < l.length) (hw : Lx.wordB l[q] = false) : (Lx.word (l.drop q)).length = 0 := by
  rw [Lx.drop_at h]
  unfold Lx.word
  rw [List.takeWhile_cons, hw]; rfl

set_option maxRecDepth 100000 in
set_option maxHeartbeats 1000000 in
theorem run_any (s : ByteArray) (i : Nat) (w : World) (hi : i ≤ s.size) (hs : s.size ≤ 1000000) : Calls Tryd.prog 34 #[.string s, .int .i64 i] w fun e w' => e = .returned (.int .i64 ((i + (Lx.word ((L s).drop i)).length : Nat) : Int)) ∧ w' = w := by
  have hlen := L_len s
  obtain ⟨R, hR⟩ : ∃ R, i + (Lx.word ((L s).drop i)).length = R := ⟨_, rfl⟩
  rw [hR]
  have HRR := Lib.hid hR
  clear hR
  have HL := Lib.hid fun c w' => letter_any c w'
  have HD := Lib.hid fun c w' => digit_any c w'
  go_enter Tryd.func34, Tryd.ntmps34
  go_wp2
  go_loopw [1] (fun x wr => ∃ q : Nat, i ≤ q ∧ q ≤ s.size ∧ x = .int .i64 q ∧ q + (Lx.word ((L s).drop q)).length = R ∧ wr = w) (fun x _ => s.size - (intOf x).toNat)
  case atStart => exact ⟨i, Nat.le_refl _, hi, rfl, HRR.out, rfl⟩
  case round =>
    obtain ⟨q, hq1, hq2, rfl, hq, rfl⟩ := hrel
    by_cases hlt : q < s.size
    · have dl : decide ((q : Int) < (s.size : Int)) = true := decide_eq_true (by omega)
      have hql : q < (L s).length := by omega
      obtain ⟨c, hc⟩ : ∃ c, s[q]'hlt = c := ⟨_, rfl⟩
      have hcl : (L s)[q]'hql = c := by rw [← L_get s q hlt, hc]
      have HLc := Lib.hid (HL.out c)
      have HDc := Lib.hid (HD.out c)
      cases hb1 : Lx.letterB c with
      | true =>
        rw [hb1] at HLc
        have h1 := word_step hql (by rw [hcl]; exact Lx.letter_word hb1)
        have HQ := Lib.hid (show q + 1 + (Lx.word ((L s).drop (q + 1))).length = R by omega)
        clear h1 hq hb1 hcl hql HL HD HDc
        go_wp2_with (go_at_call 33; refine (HLc.out _).mono ?_; rintro e w' ⟨rfl, rfl⟩)
        go_roundw
        case rel => exact ⟨q + 1, by omega, by omega, by go_num, HQ.out, trivial⟩
        case measure => simp [intOf]; omega
      | false =>
        rw [hb1] at HLc
        cases hb2 : Lx.digitB c with
        | true =>
          rw [hb2] at HDc
          have h1 := word_step hql (by rw [hcl]; exact Lx.digit_word hb2)
          have HQ := Lib.hid (show q + 1 + (Lx.word ((L s).drop (q + 1))).length = R by omega)
          clear h1 hq hb1 hb2 hcl hql HL HD
          go_wp2_with (first
            | (go_at_call 33; refine (HLc.out _).mono ?_; rintro e w' ⟨rfl, rfl⟩)
            | (go_at_call 49; refine (HDc.out _).mono ?_; rintro e w' ⟨rfl, rfl⟩))
          go_roundw
          case rel => exact ⟨q + 1, by omega, by omega, by go_num, HQ.out, trivial⟩
          case measure => simp [intOf]; omega
        | false =>
          rw [hb2] at HDc
          have h1 := word_stop hql (by rw [hcl]; unfold Lx.wordB; rw [hb1, hb2]; rfl)
          have HQ := Lib.hid (show q = R by omega)
          clear h1 hq hb1 hb2 hcl hql HL HD
          go_wp2_with (first
            | (go_at_call 33; refine (HLc.out _).mono ?_; rintro e w' ⟨rfl, rfl⟩)
            | (go_at_call 49; refine (HDc.out _).mono ?_; rintro e w' ⟨rfl, rfl⟩))
          go_ret
          exact ⟨ret_int (by rw [HQ.out]), rfl⟩
    · have hqe : q = s.size := by omega
      have dl : decide ((q : Int) < (s.size : Int)) = false := decide_eq_false (by omega)
      have HQ := Lib.hid (show q = R by rw [List.drop_eq_nil_of_le (by omega)] at hq; exact hq)
      clear hq hqe
      go_wp2
      go_ret
      exact ⟨ret_int (by rw [HQ.out]), rfl⟩

/-- What Number answers. -/
def numI (o : Option Nat) : Int := match o with | some n => (n : Int) | none => -1
set_option maxRecDepth 100000 in
set_option maxHeartbeats 2000000 in
theorem number_hex (s : ByteArray) (w : World) (hs : s.size ≤ 1000000) (h3 : 3 ≤ s.size) (hp : (L s).take 2 = [48, 120]) : Calls Tryd.prog 50 #[.string s] w fun e w' => e = .returned (.int .i64 (numI (Lx.number (L s)))) ∧ w' = w := by
  have hlen := L_len s
  have c0 : s[0]'(by omega) = 48 := by
    rw [L_get s 0 (by omega)]
    have h := congrArg (·[0]?) hp
    simp only [List.getElem?_take] at h
    rw [if_pos (by omega), List.getElem?_eq_getElem (by omega)] at h
    exact Option.some.inj h
  have c1 : s[1]'(by omega) = 120 := by
    rw [L_get s 1 (by omega)]
    have h := congrArg (·[1]?) hp
    simp only [List.getElem?_take] at h
    rw [if_pos (by omega), List.getElem?_eq_getElem (by omega)] at h
    exact Option.some.inj h
  have g3 : decide ((3 : Int) ≤ (s.size : Int)) = true := decide_eq_true (by omega)
  have k0 : (((48 : UInt8).toNat : Int) == 48) = true := rfl
  have k1 : (((120 : UInt8).toNat : Int) == 120) = true := rfl
  have hnum : numI (Lx.number (L s)) = numI (Lx.val 16 0 (L (s.extract 2 s.size))) := by
    unfold Lx.number
    rw [if_pos ⟨by omega, hp⟩, L_drop]
  rw [hnum]
  clear hnum hp
  obtain ⟨fin, hfin⟩ : ∃ fin, numI (Lx.val 16 0 (L (s.extract 2 s.size))) = fin := ⟨_, rfl⟩
  rw [hfin]
  have hsz : (s.extract 2 s.size).size = s.size - 2 := by rw [← L_len, L_drop, List.length_drop, hlen]
  have HX := Lib.hid fun c w' => hexadecimal_any c w'
  go_enter Tryd.func50, Tryd.ntmps50
  go_wp2
  obtain ⟨d, hd⟩ : ∃ d, s.extract 2 s.size = d := ⟨_, rfl⟩
  rw [hd] at hfin hsz ⊢
  have HF := Lib.hid hfin
  clear hfin hd c0 c1 k0 k1
  go_loopw [4, 5] (fun n i wr => ∃ (k acc : Nat), k ≤ d.size ∧ n = .int .i64 acc ∧ i = .int .i64 k ∧ acc ≤ 4294967295 ∧ Lx.val 16 0 (L d) = Lx.val 16 acc ((L d).drop k) ∧ wr = w) (fun _ i _ => d.size - (intOf i).toNat)
  case atStart => exact ⟨0, 0, Nat.zero_le _, rfl, rfl, by omega, rfl, rfl⟩
  case round =>
    obtain ⟨k, acc, hk, rfl, rfl, hacc, hv, rfl⟩ := hrel
    by_cases hlt : k < d.size
    · have hstep : Lx.val 16 0 (L d) = _ := hv
      rw [List.drop_eq_getElem_cons (by rw [L_len]; exact hlt), Lx.val] at hstep
      obtain ⟨c, hc⟩ : ∃ c, (L d)[k]'(by rw [L_len]; exact hlt) = c := ⟨_, rfl⟩
      have hix : d[k]'hlt = c := by rw [L_get, hc]
      rw [hc] at hstep
      have hvals := hexV_vals c
      have HC := Lib.hid (HX.out c)
      unfold hexI at HC
      obtain ⟨h, hh⟩ : ∃ h, Lx.hexV c = h := ⟨_, rfl⟩
      rw [hh] at hstep hvals HC
      clear hc hh hv
      by_cases hb : h < 16
      · rw [if_pos hb] at hstep
        simp only [if_pos (show h < 16 by omega)] at HC
        have n1 : decide ((h : Int) < 0) = false := decide_eq_false (by omega)
        have n2 : decide ((16 : Int) ≤ (h : Int)) = false := decide_eq_false (by omega)
        by_cases hm : acc * 16 + h ≤ Lx.maxN
        · rw [if_pos hm] at hstep
          have HS := Lib.hid hstep
          clear hstep
          unfold Lx.maxN at hm
          go_wp2_with (go_at_call 68; refine (HC.out _).mono ?_; rintro e w' ⟨rfl, rfl⟩)
          go_roundw
          case rel => exact ⟨k + 1, acc * 16 + h, by omega, by go_num, by go_num, by omega, HS.out, trivial⟩
          case measure => simp [intOf]; omega
        · rw [if_neg hm] at hstep
          have HS := Lib.hid hstep
          clear hstep
          unfold Lx.maxN at hm
          go_wp2_with (go_at_call 68; refine (HC.out _).mono ?_; rintro e w' ⟨rfl, rfl⟩)
          go_ret
          exact ⟨by rw [← HF.out, HS.out]; rfl, rfl⟩
      · rw [if_neg hb] at hstep
        have HS := Lib.hid hstep
        clear hstep
        by_cases h16 : h < 16
        · exact absurd h16 hb
        · simp only [if_neg h16] at HC
          go_wp2_with (go_at_call 68; refine (HC.out _).mono ?_; rintro e w' ⟨rfl, rfl⟩)
          go_ret
          exact ⟨by rw [← HF.out, HS.out]; rfl, rfl⟩
    · obtain rfl : k = d.size := by omega
      rw [List.drop_eq_nil_of_le (by rw [L_len]; exact Nat.le_refl _), Lx.val] at hv
      have HS := Lib.hid hv
      clear hv
      go_wp2
      go_ret
      exact ⟨by rw [← HF.out, HS.out]; rfl, rfl⟩

set_option maxRecDepth 100000 in
set_option maxHeartbeats 2000000 in
theorem number_dec (s : ByteArray) (w : World) (hs : s.size ≤ 1000000) (hp : ¬ (3 ≤ s.size ∧ (L s).take 2 = [48, 120])) : Calls Tryd.prog 50 #[.string s] w fun e w' => e = .returned (.int .i64 (numI (Lx.number (L s)))) ∧ w' = w := by
  have hlen := L_len s
  have hnum : numI (Lx.number (L s)) = numI (Lx.val 10 0 (L s)) := by
    unfold Lx.number
    rw [if_neg (by rw [hlen]; exact hp)]
  rw [hnum]
  clear hnum
  obtain ⟨fin, hfin⟩ : ∃ fin, numI (Lx.val 10 0 (L s)) = fin := ⟨_, rfl⟩
  rw [hfin]
  have HF := Lib.hid hfin
  clear hfin
  have HX := Lib.hid fun c w' => hexadecimal_any c w'
  by_cases h3 : 3 ≤ s.size
  · have g3 : decide ((3 : Int) ≤ (s.size : Int)) = true := decide_eq_true (by omega)
    obtain ⟨x0, c0⟩ : ∃ x, s[0]'(by omega) = x := ⟨_, rfl⟩
    obtain ⟨x1, c1⟩ : ∃ x, s[1]'(by omega) = x := ⟨_, rfl⟩
    have ht : (L s).take 2 = [x0, x1] := by
      have e0 : (L s)[0]'(by omega) = x0 := by rw [← L_get s 0 (by omega), c0]
      have e1 : (L s)[1]'(by omega) = x1 := by rw [← L_get s 1 (by omega), c1]
      have h1 := List.drop_eq_getElem_cons (l := L s) (i := 0) (by omega)
      have h2 := List.drop_eq_getElem_cons (l := L s) (i := 1) (by omega)
      rw [e0] at h1
      rw [e1] at h2
      rw [List.drop_zero] at h1
      rw [h1, h2]; rfl
    rw [ht] at hp
    by_cases e0 : x0 = 48
    · have e1 : x1 ≠ 120 := fun e1 => hp ⟨h3, by rw [e0, e1]⟩
      have k0 := ceqT (k := 48) e0 rfl
      have k1 := ceqF (k := 120) e1 rfl
      clear ht hp e0 e1
      go_enter Tryd.func50, Tryd.ntmps50
      go_wp2
      clear c0 c1 k0 k1
      go_loopw [4, 5] (fun n i wr => ∃ (k acc : Nat), k ≤ s.size ∧ n = .int .i64 acc ∧ i = .int .i64 k ∧ acc ≤ 4294967295 ∧ Lx.val 10 0 (L s) = Lx.val 10 acc ((L s).drop k) ∧ wr = w) (fun _ i _ => s.size - (intOf i).toNat)
      case atStart => exact ⟨0, 0, Nat.zero_le _, rfl, rfl, by omega, rfl, rfl⟩
      case round =>
        obtain ⟨k, acc, hk, rfl, rfl, hacc, hv, rfl⟩ := hrel
        by_cases hlt : k < s.size
        · have hstep : Lx.val 10 0 (L s) = _ := hv
          rw [List.drop_eq_getElem_cons (by rw [L_len]; exact hlt), Lx.val] at hstep
          obtain ⟨c, hc⟩ : ∃ c, (L s)[k]'(by rw [L_len]; exact hlt) = c := ⟨_, rfl⟩
          have hix : s[k]'hlt = c := by rw [L_get, hc]
          rw [hc] at hstep
          have hvals := hexV_vals c
          have HC := Lib.hid (HX.out c)
          unfold hexI at HC
          obtain ⟨h, hh⟩ : ∃ h, Lx.hexV c = h := ⟨_, rfl⟩
          rw [hh] at hstep hvals HC
          clear hc hh hv
          by_cases hb : h < 10
          · rw [if_pos hb] at hstep
            simp only [if_pos (show h < 16 by omega)] at HC
            have n1 : decide ((h : Int) < 0) = false := decide_eq_false (by omega)
            have n2 : decide ((10 : Int) ≤ (h : Int)) = false := decide_eq_false (by omega)
            by_cases hm : acc * 10 + h ≤ Lx.maxN
            · rw [if_pos hm] at hstep
              have HS := Lib.hid hstep
              clear hstep
              unfold Lx.maxN at hm
              go_wp2_with (go_at_call 68; refine (HC.out _).mono ?_; rintro e w' ⟨rfl, rfl⟩)
              go_roundw
              case rel => exact ⟨k + 1, acc * 10 + h, by omega, by go_num, by go_num, by omega, HS.out, trivial⟩
              case measure => simp [intOf]; omega
            · rw [if_neg hm] at hstep
              have HS := Lib.hid hstep
              clear hstep
              unfold Lx.maxN at hm
              go_wp2_with (go_at_call 68; refine (HC.out _).mono ?_; rintro e w' ⟨rfl, rfl⟩)
              go_ret
              exact ⟨by rw [← HF.out, HS.out]; rfl, rfl⟩
          · rw [if_neg hb] at hstep
            have HS := Lib.hid hstep
            clear hstep
            by_cases h16 : h < 16
            · simp only [if_pos h16] at HC
              have n1 : decide ((h : Int) < 0) = false := decide_eq_false (by omega)
              have n2 : decide ((10 : Int) ≤ (h : Int)) = true := decide_eq_true (by omega)
              go_wp2_with (go_at_call 68; refine (HC.out _).mono ?_; rintro e w' ⟨rfl, rfl⟩)
              go_ret
              exact ⟨by rw [← HF.out, HS.out]; rfl, rfl⟩
            · simp only [if_neg h16] at HC
              go_wp2_with (go_at_call 68; refine (HC.out _).mono ?_; rintro e w' ⟨rfl, rfl⟩)
              go_ret
              exact ⟨by rw [← HF.out, HS.out]; rfl, rfl⟩
        · obtain rfl : k = s.size := by omega
          rw [List.drop_eq_nil_of_le (by rw [L_len]; exact Nat.le_refl _), Lx.val] at hv
          have HS := Lib.hid hv
          clear hv
          go_wp2
          go_ret
          exact ⟨by rw [← HF.out, HS.out]; rfl, rfl⟩
    · have k0 := ceqF (k := 48) e0 rfl
      clear ht hp e0 c1
      go_enter Tryd.func50, Tryd.ntmps50
      go_wp2
      clear c0 k0
      go_loopw [4, 5] (fun n i wr => ∃ (k acc : Nat), k ≤ s.size ∧ n = .int .i64 acc ∧ i = .int .i64 k ∧ acc ≤ 4294967295 ∧ Lx.val 10 0 (L s) = Lx.val 10 acc ((L s).drop k) ∧ wr = w) (fun _ i _ => s.size - (intOf i).toNat)
      case atStart => exact ⟨0, 0, Nat.zero_le _, rfl, rfl, by omega, rfl, rfl⟩
      case round =>
        obtain ⟨k, acc, hk, rfl, rfl, hacc, hv, rfl⟩ := hrel
        by_cases hlt : k < s.size
        · have hstep : Lx.val 10 0 (L s) = _ := hv
          rw [List.drop_eq_getElem_cons (by rw [L_len]; exact hlt), Lx.val] at hstep
          obtain ⟨c, hc⟩ : ∃ c, (L s)[k]'(by rw [L_len]; exact hlt) = c := ⟨_, rfl⟩
          have hix : s[k]'hlt = c := by rw [L_get, hc]
          rw [hc] at hstep
          have hvals := hexV_vals c
          have HC := Lib.hid (HX.out c)
          unfold hexI at HC
          obtain ⟨h, hh⟩ : ∃ h, Lx.hexV c = h := ⟨_, rfl⟩
          rw [hh] at hstep hvals HC
          clear hc hh hv
          by_cases hb : h < 10
          · rw [if_pos hb] at hstep
            simp only [if_pos (show h < 16 by omega)] at HC
            have n1 : decide ((h : Int) < 0) = false := decide_eq_false (by omega)
            have n2 : decide ((10 : Int) ≤ (h : Int)) = false := decide_eq_false (by omega)
            by_cases hm : acc * 10 + h ≤ Lx.maxN
            · rw [if_pos hm] at hstep
              have HS := Lib.hid hstep
              clear hstep
              unfold Lx.maxN at hm
              go_wp2_with (go_at_call 68; refine (HC.out _).mono ?_; rintro e w' ⟨rfl, rfl⟩)
              go_roundw
              case rel => exact ⟨k + 1, acc * 10 + h, by omega, by go_num, by go_num, by omega, HS.out, trivial⟩
              case measure => simp [intOf]; omega
            · rw [if_neg hm] at hstep
              have HS := Lib.hid hstep
              clear hstep
              unfold Lx.maxN at hm
              go_wp2_with (go_at_call 68; refine (HC.out _).mono ?_; rintro e w' ⟨rfl, rfl⟩)
              go_ret
              exact ⟨by rw [← HF.out, HS.out]; rfl, rfl⟩
          · rw [if_neg hb] at hstep
            have HS := Lib.hid hstep
            clear hstep
            by_cases h16 : h < 16
            · simp only [if_pos h16] at HC
              have n1 : decide ((h : Int) < 0) = false := decide_eq_false (by omega)
              have n2 : decide ((10 : Int) ≤ (h : Int)) = true := decide_eq_true (by omega)
              go_wp2_with (go_at_call 68; refine (HC.out _).mono ?_; rintro e w' ⟨rfl, rfl⟩)
              go_ret
              exact ⟨by rw [← HF.out, HS.out]; rfl, rfl⟩
            · simp only [if_neg h16] at HC
              go_wp2_with (go_at_call 68; refine (HC.out _).mono ?_; rintro e w' ⟨rfl, rfl⟩)
              go_ret
              exact ⟨by rw [← HF.out, HS.out]; rfl, rfl⟩
        · obtain rfl : k = s.size := by omega
          rw [List.drop_eq_nil_of_le (by rw [L_len]; exact Nat.le_refl _), Lx.val] at hv
          have HS := Lib.hid hv
          clear hv
          go_wp2
          go_ret
          exact ⟨by rw [← HF.out, HS.out]; rfl, rfl⟩
  · have g3 : decide ((3 : Int) ≤ (s.size : Int)) = false := decide_eq_false (by omega)
    clear hp
    go_enter Tryd.func50, Tryd.ntmps50
    go_wp2
    go_loopw [4, 5] (fun n i wr => ∃ (k acc : Nat), k ≤ s.size ∧ n = .int .i64 acc ∧ i = .int .i64 k ∧ acc ≤ 4294967295 ∧ Lx.val 10 0 (L s) = Lx.val 10 acc ((L s).drop k) ∧ wr = w) (fun _ i _ => s.size - (intOf i).toNat)
    case atStart => exact ⟨0, 0, Nat.zero_le _, rfl, rfl, by omega, rfl, rfl⟩
    case round =>
      obtain ⟨k, acc, hk, rfl, rfl, hacc, hv, rfl⟩ := hrel
      by_cases hlt : k < s.size
      · have hstep : Lx.val 10 0 (L s) = _ := hv
        rw [List.drop_eq_getElem_cons (by rw [L_len]; exact hlt), Lx.val] at hstep
        obtain ⟨c, hc⟩ : ∃ c, (L s)[k]'(by rw [L_len]; exact hlt) = c := ⟨_, rfl⟩
        have hix : s[k]'hlt = c := by rw [L_get, hc]
        rw [hc] at hstep
        have hvals := hexV_vals c
        have HC := Lib.hid (HX.out c)
        unfold hexI at HC
        obtain ⟨h, hh⟩ : ∃ h, Lx.hexV c = h := ⟨_, rfl⟩
        rw [hh] at hstep hvals HC
        clear hc hh hv
        by_cases hb : h < 10
        · rw [if_pos hb] at hstep
          simp only [if_pos (show h < 16 by omega)] at HC
          have n1 : decide ((h : Int) < 0) = false := decide_eq_false (by omega)
          have n2 : decide ((10 : Int) ≤ (h : Int)) = false := decide_eq_false (by omega)
          by_cases hm : acc * 10 + h ≤ Lx.maxN
          · rw [if_pos hm] at hstep
            have HS := Lib.hid hstep
            clear hstep
            unfold Lx.maxN at hm
            go_wp2_with (go_at_call 68; refine (HC.out _).mono ?_; rintro e w' ⟨rfl, rfl⟩)
            go_roundw
            case rel => exact ⟨k + 1, acc * 10 + h, by omega, by go_num, by go_num, by omega, HS.out, trivial⟩
            case measure => simp [intOf]; omega
          · rw [if_neg hm] at hstep
            have HS := Lib.hid hstep
            clear hstep
            unfold Lx.maxN at hm
            go_wp2_with (go_at_call 68; refine (HC.out _).mono ?_; rintro e w' ⟨rfl, rfl⟩)
            go_ret
            exact ⟨by rw [← HF.out, HS.out]; rfl, rfl⟩
        · rw [if_neg hb] at hstep
          have HS := Lib.hid hstep
          clear hstep
          by_cases h16 : h < 16
          · simp only [if_pos h16] at HC
            have n1 : decide ((h : Int) < 0) = false := decide_eq_false (by omega)
            have n2 : decide ((10 : Int) ≤ (h : Int)) = true := decide_eq_true (by omega)
            go_wp2_with (go_at_call 68; refine (HC.out _).mono ?_; rintro e w' ⟨rfl, rfl⟩)
            go_ret
            exact ⟨by rw [← HF.out, HS.out]; rfl, rfl⟩
          · simp only [if_neg h16] at HC
            go_wp2_with (go_at_call 68; refine (HC.out _).mono ?_; rintro e w' ⟨rfl, rfl⟩)
            go_ret
            exact ⟨by rw [← HF.out, HS.out]; rfl, rfl⟩
      · obtain rfl : k = s.size := by omega
        rw [List.drop_eq_nil_of_le (by rw [L_len]; exact Nat.le_refl _), Lx.val] at hv
        have HS := Lib.hid hv
        clear hv
        go_wp2
        go_ret
        exact ⟨by rw [← HF.out, HS.out]; rfl, rfl⟩

theorem number_any (s : ByteArray) (w : World) (hs : s.size ≤ 1000000) : Calls Tryd.prog 50 #[.string s] w fun e w' => e = .returned (.int .i64 (numI (Lx.number (L s)))) ∧ w' = w := by
  by_cases h : 3 ≤ s.size ∧ (L s).take 2 = [48, 120]
  · exact number_hex s w hs h.1 h.2
  · exact number_dec s w hs h
end Go.Proofs.YtjopadfkdpcjmaaDoor
