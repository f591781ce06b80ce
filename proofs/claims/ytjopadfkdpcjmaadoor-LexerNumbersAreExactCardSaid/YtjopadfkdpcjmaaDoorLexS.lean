/-
  THE WALKS OF lexer.isName, Right.
-/
import Derived.Test.YtjopadfkdpcjmaaDoorLexR
namespace Go.Proofs.YtjopadfkdpcjmaaDoor
open Go.RowKit Go.ChangeShapes Go.WideShapes Go.ChangeAt

theorem str_nil (s : ByteArray) : (s.toList == []) = decide (s.size = 0) := by
  rw [ByteArray.toList_eq, Bool.eq_iff_iff, beq_iff_eq, decide_eq_true_eq]
  constructor
  · intro h; rw [← L_len]; show (s.data.toList).length = 0; rw [h]; rfl
  · intro h; exact L_nil h
theorem str_eq (a b : ByteArray) : (a.toList == b.toList) = decide (L a = L b) := by
  rw [ByteArray.toList_eq, ByteArray.toList_eq, Bool.eq_iff_iff, beq_iff_eq, decide_eq_true_eq]
set_option maxRecDepth 100000 in
set_option maxHeartbeats 1000000 in
theorem isName_any (s : ByteArray) (w : World) : Calls Tryd.prog 32 #[.string s] w fun e w' => e = .returned (.bool (Lx.isName (L s))) ∧ Later w w' := by
  have hlen := L_len s
  by_cases h0 : s.size = 0
  · have x1 : (s.toList == []) = true := by rw [str_nil]; exact decide_eq_true h0
    have x2 : decide (s = ByteArray.empty) = true := by rw [emp_size]; exact decide_eq_true h0
    rw [show Lx.isName (L s) = false by unfold Lx.isName; rw [decide_eq_false (by omega)]; rfl]
    go_enter Tryd.func32, Tryd.ntmps32
    go_wp2
    go_ret
    exact ⟨rfl, later0 _⟩
  have x1 : (s.toList == []) = false := by rw [str_nil]; exact decide_eq_false h0
  have x2 : decide (s = ByteArray.empty) = false := by rw [emp_size]; exact decide_eq_false h0
  by_cases h32 : s.size ≤ 32
  · have d2 : decide ((s.size : Int) ≤ 32) = true := decide_eq_true (by omega)
    obtain ⟨c, hc⟩ : ∃ c, s[0]'(by omega) = c := ⟨_, rfl⟩
    have hL := L_cons s (by omega)
    rw [hc] at hL
    have HI := Lib.hid fun w' => by
      have h := in_any lettersS c w'
      rw [letters_B] at h
      exact h
    unfold lettersS at HI
    have HW := Lib.hid fun w' => word_any s w' (by omega)
    cases hb : Lx.letterB c with
    | false =>
      rw [hb] at HI
      rw [show Lx.isName (L s) = false by unfold Lx.isName; rw [hL, List.headD_cons, hb, Bool.false_and, Bool.and_false]]
      clear hL
      go_enter Tryd.func32, Tryd.ntmps32
      go_wp2_with (go_at_call 28; refine (HI.out _).mono ?_; rintro e w' ⟨rfl, hw'⟩; rw [hw']; clear hw' w')
      go_ret
      exact ⟨rfl, later0 _⟩
    | true =>
      rw [hb] at HI
      have hn : Lx.isName (L s) = decide (Lx.word (L s) = L s) := by
        unfold Lx.isName
        rw [decide_eq_true (show 1 ≤ (L s).length ∧ (L s).length ≤ 32 by omega), Bool.true_and]
        rw [show Lx.letterB ((L s).headD 0) = true by rw [hL]; exact hb, Bool.true_and]
      rw [hn]
      have HSE := Lib.hid fun t => str_eq t s
      obtain ⟨R, hR⟩ : ∃ R, decide (Lx.word (L s) = L s) = R := ⟨_, rfl⟩
      have HRR := Lib.hid hR
      rw [hR]
      clear hn hL hb hR
      go_enter Tryd.func32, Tryd.ntmps32
      go_wp2_with (first
        | (go_at_call 28; refine (HI.out _).mono ?_; rintro e w' ⟨rfl, hw'⟩; rw [hw']; clear hw' w')
        | (go_at_call 56; refine (HW.out _).mono ?_; rintro e w' ⟨t, rfl, ht, l1⟩; have hse := HSE.out t; rw [ht, HRR.out] at hse; clear ht))
      go_ret
      exact ⟨rfl, l1⟩
  · have d2 : decide ((s.size : Int) ≤ 32) = false := decide_eq_false (by omega)
    rw [show Lx.isName (L s) = false by unfold Lx.isName; rw [decide_eq_false (by omega)]; rfl]
    go_enter Tryd.func32, Tryd.ntmps32
    go_wp2
    go_ret
    exact ⟨rfl, later0 _⟩

theorem signs_B (c : UInt8) : (L ⟨#[44, 58, 40, 41, 91, 93, 123, 125, 61, 43, 45, 42, 47, 60, 62, 64, 124, 38, 33]⟩).contains c = Lx.signB c := rfl
set_option maxRecDepth 100000 in
set_option maxHeartbeats 4000000 in
theorem right_any (t : Lx.Tok) (w : World) : Calls Tryd.prog 16 #[.agg (Tk t).toArray] w fun e w' => e = .returned (.bool (Lx.right t)) ∧ Later w w' := by
  obtain ⟨tk, ta, tn, ts⟩ := t
  obtain ⟨s, hs⟩ : ∃ s : ByteArray, (⟨ts.toArray⟩ : ByteArray) = s := ⟨_, rfl⟩
  have hLs : L s = ts := by rw [← hs, L_mk]
  unfold Tk
  simp only
  rw [hs]
  clear hs
  have hlen := L_len s
  rw [hLs] at hlen
  have HN := Lib.hid fun w' => isName_any s w'
  rw [hLs] at HN
  have HSG := Lib.hid fun c w' => by
    have h := in_any ⟨#[44, 58, 40, 41, 91, 93, 123, 125, 61, 43, 45, 42, 47, 60, 62, 64, 124, 38, 33]⟩ c w'
    rw [signs_B] at h
    exact h
  have hnz : decide (tn = 0) = (tn == 0) := by rw [Bool.eq_iff_iff, beq_iff_eq, decide_eq_true_eq]
  have hE : (ts = []) ↔ s.size = 0 := by
    rw [← hlen]
    exact List.length_eq_zero_iff.symm
  by_cases e1 : tk = 1
  · subst e1
    rw [show Lx.right ⟨1, ta, tn, ts⟩ = ((tn == 0) && Lx.isName ts) by unfold Lx.right; rw [if_pos rfl, hnz]]
    obtain ⟨N, hN⟩ : ∃ N, Lx.isName ts = N := ⟨_, rfl⟩
    rw [hN] at HN ⊢
    clear hN hLs hE hnz
    cases hz : (tn == 0) with
    | true =>
      go_enter Tryd.func16, Tryd.ntmps16
      go_wp2_with (go_at_call 32; refine (HN.out _).mono ?_; rintro e w' ⟨rfl, l1⟩)
      go_ret
      exact ⟨rfl, Later.trans_ (later1 _ _) l1⟩
    | false =>
      go_enter Tryd.func16, Tryd.ntmps16
      go_wp2
      go_ret
      exact ⟨rfl, later1 _ _⟩
  have b1 : (tk == 1) = false := beq_eq_false_iff_ne.2 e1
  by_cases e2 : tk = 2
  · subst e2
    rw [show Lx.right ⟨2, ta, tn, ts⟩ = (decide (s.size = 0) && decide (0 ≤ tn ∧ tn ≤ 4294967295)) by unfold Lx.right; rw [if_neg (by simp), if_pos rfl]; congr 1; rw [decide_eq_decide]; exact hE]
    clear hLs hE hnz e1 b1
    by_cases h0 : s.size = 0
    · have x1 : (s.toList == []) = true := by rw [str_nil]; exact decide_eq_true h0
      have x2 : decide (s = ByteArray.empty) = true := by rw [emp_size]; exact decide_eq_true h0
      rw [decide_eq_true h0, Bool.true_and]
      by_cases g0 : 0 ≤ tn
      · have d0 : decide (0 ≤ tn) = true := decide_eq_true g0
        rw [show decide (0 ≤ tn ∧ tn ≤ 4294967295) = decide (tn ≤ 4294967295) by rw [decide_eq_decide]; omega]
        clear h0 hlen
        go_enter Tryd.func16, Tryd.ntmps16
        go_wp2
        go_ret
        exact ⟨rfl, later1 _ _⟩
      · have d0 : decide (0 ≤ tn) = false := decide_eq_false g0
        rw [show decide (0 ≤ tn ∧ tn ≤ 4294967295) = false by rw [decide_eq_false_iff_not]; omega]
        clear h0 hlen
        go_enter Tryd.func16, Tryd.ntmps16
        go_wp2
        go_ret
        exact ⟨rfl, later1 _ _⟩
    · have x1 : (s.toList == []) = false := by rw [str_nil]; exact decide_eq_false h0
      have x2 : decide (s = ByteArray.empty) = false := by rw [emp_size]; exact decide_eq_false h0
      rw [decide_eq_false h0, Bool.false_and]
      clear h0 hlen
      go_enter Tryd.func16, Tryd.ntmps16
      go_wp2
      go_ret
      exact ⟨rfl, later1 _ _⟩
  have b2 : (tk == 2) = false := beq_eq_false_iff_ne.2 e2
  by_cases e3 : tk = 3
  · subst e3
    rw [show Lx.right ⟨3, ta, tn, ts⟩ = ((tn == 0) && decide (s.size ≤ 16384)) by unfold Lx.right; rw [if_neg (by simp), if_neg (by simp), if_pos rfl, hnz]; simp only; rw [hlen]]
    clear hLs hE hnz e1 b1 e2 b2 hlen
    cases hz : (tn == 0) with
    | true =>
      go_enter Tryd.func16, Tryd.ntmps16
      go_wp2
      go_ret
      exact ⟨ret_bool (by rw [Bool.true_and, decide_eq_decide]; omega), later1 _ _⟩
    | false =>
      go_enter Tryd.func16, Tryd.ntmps16
      go_wp2
      go_ret
      exact ⟨rfl, later1 _ _⟩
  have b3 : (tk == 3) = false := beq_eq_false_iff_ne.2 e3
  by_cases e4 : tk = 4
  · subst e4
    have hr : Lx.right ⟨4, ta, tn, ts⟩ = ((tn == 0) && (decide (s.size = 1) && Lx.signB (ts.headD 0))) := by unfold Lx.right; rw [if_neg (by simp), if_neg (by simp), if_neg (by simp), if_pos rfl, hnz]; simp only; rw [hlen]
    rw [hr]
    clear hr
    cases hz : (tn == 0) with
    | true =>
      by_cases h1 : s.size = 1
      · have d1 : ((s.size : Int) == 1) = true := beq_iff_eq.2 (by omega)
        obtain ⟨c, hc⟩ : ∃ c, s[0]'(by omega) = c := ⟨_, rfl⟩
        have hL := L_cons s (by omega)
        rw [hLs, hc] at hL
        rw [decide_eq_true h1, hL, List.headD_cons, Bool.true_and]
        have HG := Lib.hid (HSG.out c)
        clear hLs hE hnz e1 b1 e2 b2 e3 b3 hlen hL
        go_enter Tryd.func16, Tryd.ntmps16
        go_wp2_with (go_at_call 28; refine (HG.out _).mono ?_; rintro e w' ⟨rfl, hw'⟩; rw [hw']; clear hw' w')
        go_ret
        exact ⟨rfl, later1 _ _⟩
      · have d1 : ((s.size : Int) == 1) = false := beq_eq_false_iff_ne.2 (by omega)
        rw [decide_eq_false h1, Bool.false_and]
        clear hLs hE hnz e1 b1 e2 b2 e3 b3 hlen
        go_enter Tryd.func16, Tryd.ntmps16
        go_wp2
        go_ret
        exact ⟨rfl, later1 _ _⟩
    | false =>
      rw [Bool.false_and]
      clear hLs hE hnz e1 b1 e2 b2 e3 b3 hlen
      go_enter Tryd.func16, Tryd.ntmps16
      go_wp2
      go_ret
      exact ⟨rfl, later1 _ _⟩
  have b4 : (tk == 4) = false := beq_eq_false_iff_ne.2 e4
  by_cases e5 : tk = 5
  · subst e5
    have hr : Lx.right ⟨5, ta, tn, ts⟩ = ((tn == 0) && decide (s.size = 0)) := by unfold Lx.right; rw [if_neg (by simp), if_neg (by simp), if_neg (by simp), if_neg (by simp), if_pos rfl, hnz]; congr 1; rw [decide_eq_decide]; exact hE
    rw [hr]
    clear hLs hE hnz e1 b1 e2 b2 e3 b3 e4 b4 hlen hr
    have x1 : (s.toList == []) = decide (s.size = 0) := str_nil s
    have x2 : decide (s = ByteArray.empty) = decide (s.size = 0) := emp_size s
    obtain ⟨R, hR⟩ : ∃ R, decide (s.size = 0) = R := ⟨_, rfl⟩
    rw [hR] at x1 x2 ⊢
    clear hR
    cases hz : (tn == 0) with
    | true =>
      go_enter Tryd.func16, Tryd.ntmps16
      go_wp2
      go_ret
      exact ⟨rfl, later1 _ _⟩
    | false =>
      go_enter Tryd.func16, Tryd.ntmps16
      go_wp2
      go_ret
      exact ⟨rfl, later1 _ _⟩
  have b5 : (tk == 5) = false := beq_eq_false_iff_ne.2 e5
  rw [show Lx.right ⟨tk, ta, tn, ts⟩ = false by unfold Lx.right; rw [if_neg e1, if_neg e2, if_neg e3, if_neg e4, if_neg e5]]
  clear hLs hE hnz e1 e2 e3 e4 e5 hlen
  go_enter Tryd.func16, Tryd.ntmps16
  go_wp2
  go_ret
  exact ⟨rfl, later1 _ _⟩
end Go.Proofs.YtjopadfkdpcjmaaDoor
