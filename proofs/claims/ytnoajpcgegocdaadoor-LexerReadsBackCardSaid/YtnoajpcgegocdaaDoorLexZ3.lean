/-
  THE STATEMENT LexerReadsBack: what is printed is read back, but for the places; and the tokens of a source, printed and read, are those tokens.
-/
import Derived.Test.YtnoajpcgegocdaaDoorLexV
import Derived.Test.YtnoajpcgegocdaaDoorLexW
namespace Go.Proofs.YtnoajpcgegocdaaDoor
open Go.RowKit Go.ChangeShapes Go.WideShapes Go.ChangeAt

theorem toksF_lens : ∀ (f p : Nat) (l : Lx.Str), (Lx.toksF f p l).1.length ≤ l.length := by
  intro f
  induction f with
  | zero => intro p l; exact Nat.zero_le _
  | succ f ih =>
    intro p l
    cases l with
    | nil => exact Nat.zero_le _
    | cons c r =>
      unfold Lx.toksF
      rw [List.length_cons]
      split
      · have := ih (p + 1) r; omega
      split
      · have := ih (p + (Lx.rest r + 1)) (r.drop (Lx.rest r)); rw [List.length_drop] at this; omega
      split
      · have := ih (p + (Lx.tok1 (c :: r)).2.1) (r.drop ((Lx.tok1 (c :: r)).2.1 - 1))
        rw [List.length_drop] at this
        unfold Lx.cat
        split
        · rw [List.length_append, List.length_singleton]; omega
        · exact Nat.zero_le _
      · exact Nat.zero_le _
theorem Tokens_lens (l : Lx.Str) : (Lx.Tokens l).1.length ≤ l.length := by
  unfold Lx.Tokens
  split
  · exact toksF_lens _ _ _
  · exact Nat.zero_le _
theorem L_back (x : Lx.Str) : L ⟨x.toArray⟩ = x := by
  unfold L
  simp
/-- Tokens of what is printed. -/
theorem back_any {l : List Lx.Tok} {R : Lx.Str} (h : Lx.Print l = (R, 0)) : ∃ T2, T2.map Lx.bare = l.map Lx.bare ∧ ∀ w : World, Calls Tryd.prog 10 #[.string ⟨R.toArray⟩] w fun e w' =>
    ∃ A c, e = .returned (.tuple #[.slice A l.length c, .agg #[.int .i64 0, .int .i64 0]]) ∧ T2.length = l.length ∧ Sl w' 4 A l.length (Tks T2) ∧ Later w w' := by
  obtain ⟨r, h1, h2⟩ := Lx.tokens_print (l := l) (by rw [h])
  rw [h] at h1
  have hl : r.length = l.length := by have := congrArg List.length h2; simpa using this
  refine ⟨r, h2, fun w => ?_⟩
  have k := tokens_any ⟨R.toArray⟩ w
  rw [L_back, h1] at k
  refine k.mono ?_
  rintro e w' ⟨A, m, c, rfl, hm, _, _, hs, l1⟩
  have hm2 : m = l.length := by rw [← hl]; exact hm.symm
  subst hm2
  exact ⟨A, c, rfl, hl, hs, l1⟩
set_option maxRecDepth 100000 in
theorem back_no (A : Option Addr) (n c : Nat) (l : List Lx.Tok) (s : ByteArray) (w : World) (hs : Sl w 4 A n (Tks l)) (hll : l.length = n) (hn : n ≤ maxLen) (h : ¬ (fewB l = true ∧ s.size ≤ 3000)) (tab : Tab10 w) :
    Calls Tryd.prog 5 #[.slice A n c, .string s] w fun e w' => e = .returned (.bool true) ∧ Later w w' := by
  have HN := Lib.hid fun w' (h : Later w w') => sanity_any w' (tab.keep h)
  have HF := Lib.hid (few_any A n c l w hs hll hn)
  clear tab
  cases hf : fewB l with
  | false =>
    rw [hf] at HF
    clear h hf hs hll hn
    go_enter Tryd.func5, Tryd.ntmps5
    go_wp2_with (first
      | (go_at_call 15; refine HF.out.mono ?_; rintro e w1 ⟨rfl, l1⟩)
      | (go_at_call 9; refine (HN.out _ l1).mono ?_; rintro e w2 ⟨rfl, l2⟩))
    go_ret
    exact ⟨rfl, Later.trans_ l1 l2⟩
  | true =>
    rw [hf] at HF
    have hz : ¬ s.size ≤ 3000 := fun k => h ⟨hf, k⟩
    have d0 : decide ((3000 : Int) < (s.size : Int)) = true := decide_eq_true (by omega)
    have g0 : (3000 : Int) < (s.size : Int) := by omega
    clear h hf hs hll hn
    go_enter Tryd.func5, Tryd.ntmps5
    go_wp2_with (first
      | (go_at_call 15; refine HF.out.mono ?_; rintro e w1 ⟨rfl, l1⟩)
      | (go_at_call 9; refine (HN.out _ l1).mono ?_; rintro e w2 ⟨rfl, l2⟩))
    go_ret
    exact ⟨rfl, Later.trans_ l1 l2⟩
set_option maxRecDepth 100000 in
set_option maxHeartbeats 8000000 in
theorem back_pe (A : Option Addr) (n c : Nat) (l : List Lx.Tok) (s : ByteArray) (w : World) (hs : Sl w 4 A n (Tks l)) (hll : l.length = n) (hn : n ≤ maxLen) (hfw : fewB l = true) (hsz : s.size ≤ 3000) (tab : Tab10 w) (R : Lx.Str) (re : Int) (hR : Lx.Print l = (R, re)) (T : List Lx.Tok) (tp : Nat) (te : Int) (hT : Lx.Tokens (L s) = (T, tp, te)) (S : Lx.Str) (se : Int) (_hS : Lx.Print T = (S, se)) (h1 : re = 0) (h2 : te ≠ 0) :
    Calls Tryd.prog 5 #[.slice A n c, .string s] w fun e w' => e = .returned (.bool true) ∧ Later w w' := by
  have d0 : decide ((3000 : Int) < (s.size : Int)) = false := decide_eq_false (by omega)
  have g0 : ¬ (3000 : Int) < (s.size : Int) := by omega
  have HN := Lib.hid fun w' (h : Later w w') => sanity_any w' (tab.keep h)
  have HF := Lib.hid (few_any A n c l w hs hll hn)
  rw [hfw] at HF
  have HS := Lib.hid fun w' (h : Later w w') => hs.keep h
  have hn100 : n ≤ 100 := by
    unfold fewB at hfw
    rw [Bool.and_eq_true, decide_eq_true_eq] at hfw
    omega
  have HP := Lib.hid fun w' (h : Later w w') => print_any A n c l w' (hs.keep h) hll hn (tab.keep h)
  rw [hR] at HP
  unfold prAns at HP
  have HT := Lib.hid fun w' => tokens_any s w'
  rw [hT] at HT
  unfold GotToks at HT
  have hTl := Tokens_lens (L s)
  rw [hT, L_len] at hTl
  simp only at hTl
  simp only at HP HT
  subst h1
  obtain ⟨T2, hb, HB0⟩ := back_any hR
  rw [hll] at HB0
  have HB := Lib.hid HB0
  clear HB0 hR
  have e2 : (te != 0) = true := bne_iff_ne.2 h2
  clear h2 hT
  clear hs tab hfw
  go_enter Tryd.func5, Tryd.ntmps5
  go_wp2_with (first
    | (go_at_call 15; refine HF.out.mono ?_; rintro e w1 ⟨rfl, l1⟩; have lw := l1)
    | (go_at_call 18; (with_reducible refine (HP.out _ lw).mono ?_); rintro e w2 ⟨rfl, l2⟩; replace lw := Later.trans_ lw l2)
    | (go_at_call 10; (with_reducible refine (HB.out _).mono ?_); rintro e w3 ⟨A3, c3, rfl, hm3, s3, l3⟩; have b3 := Blk.new w3 26 #[.int .i64 0, .int .i64 0] [.int .i64 0, .int .i64 0] rfl; replace lw := Later.trans_ (Later.trans_ lw l3) (later1 w3 (.cells #[.int .i64 0, .int .i64 0] 26)); replace s3 := s3.keep (later1 w3 (.cells #[.int .i64 0, .int .i64 0] 26)); have c31 := b3.cell (j := 1) (v := .int .i64 0) rfl)
    | (go_at_call 14; (with_reducible refine (same_any A3 A n c3 c T2 l true _ s3 (HS.out _ lw) hm3 hll (by omega) (fun h => by cases h) (fun _ => hb)).mono ?_); rintro e w4 ⟨rfl, l4⟩; clear c31; replace lw := Later.trans_ lw l4)
    | (go_at_call 10; (with_reducible refine (HT.out _).mono ?_); rintro e w5 ⟨A5, n5, c5, he5, hn5, _, _, s5, l5⟩; rw [← hn5] at he5 s5; subst he5; clear hn5; have b5 := Blk.new w5 26 #[.int .i64 (tp : Int), .int .i64 te] [.int .i64 (tp : Int), .int .i64 te] rfl; replace lw := Later.trans_ (Later.trans_ lw l5) (later1 w5 (.cells #[.int .i64 (tp : Int), .int .i64 te] 26)); replace s5 := s5.keep (later1 w5 (.cells #[.int .i64 (tp : Int), .int .i64 te] 26)); have c51 := b5.cell (j := 1) (v := .int .i64 te) rfl)
    | (go_at_call 9; refine (HN.out _ lw).mono ?_; rintro e w9 ⟨rfl, l9⟩; replace lw := Later.trans_ lw l9))
  go_ret
  exact ⟨rfl, lw⟩
set_option maxRecDepth 100000 in
set_option maxHeartbeats 8000000 in
theorem back_pl (A : Option Addr) (n c : Nat) (l : List Lx.Tok) (s : ByteArray) (w : World) (hs : Sl w 4 A n (Tks l)) (hll : l.length = n) (hn : n ≤ maxLen) (hfw : fewB l = true) (hsz : s.size ≤ 3000) (tab : Tab10 w) (R : Lx.Str) (re : Int) (hR : Lx.Print l = (R, re)) (T : List Lx.Tok) (tp : Nat) (te : Int) (hT : Lx.Tokens (L s) = (T, tp, te)) (S : Lx.Str) (se : Int) (hS : Lx.Print T = (S, se)) (h1 : re = 0) (h2 : te = 0) (h3 : se = 2) :
    Calls Tryd.prog 5 #[.slice A n c, .string s] w fun e w' => e = .returned (.bool true) ∧ Later w w' := by
  have d0 : decide ((3000 : Int) < (s.size : Int)) = false := decide_eq_false (by omega)
  have g0 : ¬ (3000 : Int) < (s.size : Int) := by omega
  have HN := Lib.hid fun w' (h : Later w w') => sanity_any w' (tab.keep h)
  have HF := Lib.hid (few_any A n c l w hs hll hn)
  rw [hfw] at HF
  have HS := Lib.hid fun w' (h : Later w w') => hs.keep h
  have hn100 : n ≤ 100 := by
    unfold fewB at hfw
    rw [Bool.and_eq_true, decide_eq_true_eq] at hfw
    omega
  have HP := Lib.hid fun w' (h : Later w w') => print_any A n c l w' (hs.keep h) hll hn (tab.keep h)
  rw [hR] at HP
  unfold prAns at HP
  have HT := Lib.hid fun w' => tokens_any s w'
  rw [hT] at HT
  unfold GotToks at HT
  have hTl := Tokens_lens (L s)
  rw [hT, L_len] at hTl
  simp only at hTl
  have HQ := Lib.hid fun A2 c2 w' (h2 : Sl w' 4 A2 T.length (Tks T)) (h : Later w w') => print_any A2 T.length c2 T w' h2 rfl (by unfold maxLen; omega) (tab.keep h)
  rw [hS] at HQ
  unfold prAns at HQ
  simp only at HQ
  simp only at HP HT
  subst h1
  obtain ⟨T2, hb, HB0⟩ := back_any hR
  rw [hll] at HB0
  have HB := Lib.hid HB0
  clear HB0 hR
  have e2 : (te != 0) = false := by rw [h2]; rfl
  subst h3
  clear h2 hT hS
  clear hs tab hfw
  go_enter Tryd.func5, Tryd.ntmps5
  go_wp2_with (first
    | (go_at_call 15; refine HF.out.mono ?_; rintro e w1 ⟨rfl, l1⟩; have lw := l1)
    | (go_at_call 18; (with_reducible refine (HP.out _ lw).mono ?_); rintro e w2 ⟨rfl, l2⟩; replace lw := Later.trans_ lw l2)
    | (go_at_call 10; (with_reducible refine (HB.out _).mono ?_); rintro e w3 ⟨A3, c3, rfl, hm3, s3, l3⟩; have b3 := Blk.new w3 26 #[.int .i64 0, .int .i64 0] [.int .i64 0, .int .i64 0] rfl; replace lw := Later.trans_ (Later.trans_ lw l3) (later1 w3 (.cells #[.int .i64 0, .int .i64 0] 26)); replace s3 := s3.keep (later1 w3 (.cells #[.int .i64 0, .int .i64 0] 26)); have c31 := b3.cell (j := 1) (v := .int .i64 0) rfl)
    | (go_at_call 14; (with_reducible refine (same_any A3 A n c3 c T2 l true _ s3 (HS.out _ lw) hm3 hll (by omega) (fun h => by cases h) (fun _ => hb)).mono ?_); rintro e w4 ⟨rfl, l4⟩; clear c31; replace lw := Later.trans_ lw l4)
    | (go_at_call 10; (with_reducible refine (HT.out _).mono ?_); rintro e w5 ⟨A5, n5, c5, he5, hn5, _, _, s5, l5⟩; rw [← hn5] at he5 s5; subst he5; clear hn5; have b5 := Blk.new w5 26 #[.int .i64 (tp : Int), .int .i64 te] [.int .i64 (tp : Int), .int .i64 te] rfl; replace lw := Later.trans_ (Later.trans_ lw l5) (later1 w5 (.cells #[.int .i64 (tp : Int), .int .i64 te] 26)); replace s5 := s5.keep (later1 w5 (.cells #[.int .i64 (tp : Int), .int .i64 te] 26)); have c51 := b5.cell (j := 1) (v := .int .i64 te) rfl)
    | (go_at_call 18; (with_reducible refine (HQ.out _ _ _ s5 lw).mono ?_); rintro e w6 ⟨rfl, l6⟩; replace s5 := s5.keep l6; replace lw := Later.trans_ lw l6)
    | (go_at_call 9; refine (HN.out _ lw).mono ?_; rintro e w9 ⟨rfl, l9⟩; replace lw := Later.trans_ lw l9))
  go_ret
  exact ⟨rfl, lw⟩
set_option maxRecDepth 100000 in
set_option maxHeartbeats 8000000 in
theorem back_po (A : Option Addr) (n c : Nat) (l : List Lx.Tok) (s : ByteArray) (w : World) (hs : Sl w 4 A n (Tks l)) (hll : l.length = n) (hn : n ≤ maxLen) (hfw : fewB l = true) (hsz : s.size ≤ 3000) (tab : Tab10 w) (R : Lx.Str) (re : Int) (hR : Lx.Print l = (R, re)) (T : List Lx.Tok) (tp : Nat) (te : Int) (hT : Lx.Tokens (L s) = (T, tp, te)) (S : Lx.Str) (se : Int) (hS : Lx.Print T = (S, se)) (h1 : re = 0) (h2 : te = 0) (h3 : se = 0) :
    Calls Tryd.prog 5 #[.slice A n c, .string s] w fun e w' => e = .returned (.bool true) ∧ Later w w' := by
  have d0 : decide ((3000 : Int) < (s.size : Int)) = false := decide_eq_false (by omega)
  have g0 : ¬ (3000 : Int) < (s.size : Int) := by omega
  have HN := Lib.hid fun w' (h : Later w w') => sanity_any w' (tab.keep h)
  have HF := Lib.hid (few_any A n c l w hs hll hn)
  rw [hfw] at HF
  have HS := Lib.hid fun w' (h : Later w w') => hs.keep h
  have hn100 : n ≤ 100 := by
    unfold fewB at hfw
    rw [Bool.and_eq_true, decide_eq_true_eq] at hfw
    omega
  have HP := Lib.hid fun w' (h : Later w w') => print_any A n c l w' (hs.keep h) hll hn (tab.keep h)
  rw [hR] at HP
  unfold prAns at HP
  have HT := Lib.hid fun w' => tokens_any s w'
  rw [hT] at HT
  unfold GotToks at HT
  have hTl := Tokens_lens (L s)
  rw [hT, L_len] at hTl
  simp only at hTl
  have HQ := Lib.hid fun A2 c2 w' (h2 : Sl w' 4 A2 T.length (Tks T)) (h : Later w w') => print_any A2 T.length c2 T w' h2 rfl (by unfold maxLen; omega) (tab.keep h)
  rw [hS] at HQ
  unfold prAns at HQ
  simp only at HQ
  simp only at HP HT
  subst h1
  obtain ⟨T2, hb, HB0⟩ := back_any hR
  rw [hll] at HB0
  have HB := Lib.hid HB0
  clear HB0 hR
  have e2 : (te != 0) = false := by rw [h2]; rfl
  subst h3
  obtain ⟨T3, hb3, HC0⟩ := back_any hS
  have HC := Lib.hid HC0
  clear HC0 h2 hT hS
  clear hs tab hfw
  go_enter Tryd.func5, Tryd.ntmps5
  go_wp2_with (first
    | (go_at_call 15; refine HF.out.mono ?_; rintro e w1 ⟨rfl, l1⟩; have lw := l1)
    | (go_at_call 18; (with_reducible refine (HP.out _ lw).mono ?_); rintro e w2 ⟨rfl, l2⟩; replace lw := Later.trans_ lw l2)
    | (go_at_call 10; (with_reducible refine (HB.out _).mono ?_); rintro e w3 ⟨A3, c3, rfl, hm3, s3, l3⟩; have b3 := Blk.new w3 26 #[.int .i64 0, .int .i64 0] [.int .i64 0, .int .i64 0] rfl; replace lw := Later.trans_ (Later.trans_ lw l3) (later1 w3 (.cells #[.int .i64 0, .int .i64 0] 26)); replace s3 := s3.keep (later1 w3 (.cells #[.int .i64 0, .int .i64 0] 26)); have c31 := b3.cell (j := 1) (v := .int .i64 0) rfl)
    | (go_at_call 14; (with_reducible refine (same_any A3 A n c3 c T2 l true _ s3 (HS.out _ lw) hm3 hll (by omega) (fun h => by cases h) (fun _ => hb)).mono ?_); rintro e w4 ⟨rfl, l4⟩; clear c31; replace lw := Later.trans_ lw l4)
    | (go_at_call 10; (with_reducible refine (HT.out _).mono ?_); rintro e w5 ⟨A5, n5, c5, he5, hn5, _, _, s5, l5⟩; rw [← hn5] at he5 s5; subst he5; clear hn5; have b5 := Blk.new w5 26 #[.int .i64 (tp : Int), .int .i64 te] [.int .i64 (tp : Int), .int .i64 te] rfl; replace lw := Later.trans_ (Later.trans_ lw l5) (later1 w5 (.cells #[.int .i64 (tp : Int), .int .i64 te] 26)); replace s5 := s5.keep (later1 w5 (.cells #[.int .i64 (tp : Int), .int .i64 te] 26)); have c51 := b5.cell (j := 1) (v := .int .i64 te) rfl)
    | (go_at_call 18; (with_reducible refine (HQ.out _ _ _ s5 lw).mono ?_); rintro e w6 ⟨rfl, l6⟩; replace s5 := s5.keep l6; replace lw := Later.trans_ lw l6)
    | (go_at_call 10; (with_reducible refine (HC.out _).mono ?_); rintro e w7 ⟨A7, c7, rfl, hm7, s7, l7⟩; have b7 := Blk.new w7 26 #[.int .i64 0, .int .i64 0] [.int .i64 0, .int .i64 0] rfl; replace lw := Later.trans_ (Later.trans_ lw l7) (later1 w7 (.cells #[.int .i64 0, .int .i64 0] 26)); replace s7 := s7.keep (later1 w7 (.cells #[.int .i64 0, .int .i64 0] 26)); replace s5 := (s5.keep l7).keep (later1 w7 (.cells #[.int .i64 0, .int .i64 0] 26)))
    | (go_at_call 9; refine (HN.out _ lw).mono ?_; rintro e w9 ⟨rfl, l9⟩; replace lw := Later.trans_ lw l9; replace b7 := b7.keep l9; replace s7 := s7.keep l9; replace s5 := s5.keep l9; have c71 := b7.cell (j := 1) (v := .int .i64 0) rfl)
    | (go_at_call 14; (with_reducible refine (same_any A7 A5 T.length c7 c5 T3 T true _ s7 s5 hm7 rfl (by omega) (fun h => by cases h) (fun _ => hb3)).mono ?_); rintro e w8 ⟨rfl, l8⟩; replace lw := Later.trans_ lw l8))
  go_ret
  exact ⟨rfl, lw⟩
set_option maxRecDepth 100000 in
set_option maxHeartbeats 8000000 in
theorem back_ne (A : Option Addr) (n c : Nat) (l : List Lx.Tok) (s : ByteArray) (w : World) (hs : Sl w 4 A n (Tks l)) (hll : l.length = n) (hn : n ≤ maxLen) (hfw : fewB l = true) (hsz : s.size ≤ 3000) (tab : Tab10 w) (R : Lx.Str) (re : Int) (hR : Lx.Print l = (R, re)) (T : List Lx.Tok) (tp : Nat) (te : Int) (hT : Lx.Tokens (L s) = (T, tp, te)) (S : Lx.Str) (se : Int) (_hS : Lx.Print T = (S, se)) (h1 : re ≠ 0) (h2 : te ≠ 0) :
    Calls Tryd.prog 5 #[.slice A n c, .string s] w fun e w' => e = .returned (.bool true) ∧ Later w w' := by
  have d0 : decide ((3000 : Int) < (s.size : Int)) = false := decide_eq_false (by omega)
  have g0 : ¬ (3000 : Int) < (s.size : Int) := by omega
  have HN := Lib.hid fun w' (h : Later w w') => sanity_any w' (tab.keep h)
  have HF := Lib.hid (few_any A n c l w hs hll hn)
  rw [hfw] at HF
  have HS := Lib.hid fun w' (h : Later w w') => hs.keep h
  have hn100 : n ≤ 100 := by
    unfold fewB at hfw
    rw [Bool.and_eq_true, decide_eq_true_eq] at hfw
    omega
  have HP := Lib.hid fun w' (h : Later w w') => print_any A n c l w' (hs.keep h) hll hn (tab.keep h)
  rw [hR] at HP
  unfold prAns at HP
  have HT := Lib.hid fun w' => tokens_any s w'
  rw [hT] at HT
  unfold GotToks at HT
  have hTl := Tokens_lens (L s)
  rw [hT, L_len] at hTl
  simp only at hTl
  simp only at HP HT
  have e1 : (re == 0) = false := beq_eq_false_iff_ne.2 h1
  clear h1 hR
  have e2 : (te != 0) = true := bne_iff_ne.2 h2
  clear h2 hT
  clear hs tab hfw
  go_enter Tryd.func5, Tryd.ntmps5
  go_wp2_with (first
    | (go_at_call 15; refine HF.out.mono ?_; rintro e w1 ⟨rfl, l1⟩; have lw := l1)
    | (go_at_call 18; (with_reducible refine (HP.out _ lw).mono ?_); rintro e w2 ⟨rfl, l2⟩; replace lw := Later.trans_ lw l2)
    | (go_at_call 10; (with_reducible refine (HT.out _).mono ?_); rintro e w5 ⟨A5, n5, c5, he5, hn5, _, _, s5, l5⟩; rw [← hn5] at he5 s5; subst he5; clear hn5; have b5 := Blk.new w5 26 #[.int .i64 (tp : Int), .int .i64 te] [.int .i64 (tp : Int), .int .i64 te] rfl; replace lw := Later.trans_ (Later.trans_ lw l5) (later1 w5 (.cells #[.int .i64 (tp : Int), .int .i64 te] 26)); replace s5 := s5.keep (later1 w5 (.cells #[.int .i64 (tp : Int), .int .i64 te] 26)); have c51 := b5.cell (j := 1) (v := .int .i64 te) rfl)
    | (go_at_call 9; refine (HN.out _ lw).mono ?_; rintro e w9 ⟨rfl, l9⟩; replace lw := Later.trans_ lw l9))
  go_ret
  exact ⟨rfl, lw⟩
set_option maxRecDepth 100000 in
set_option maxHeartbeats 8000000 in
theorem back_nl (A : Option Addr) (n c : Nat) (l : List Lx.Tok) (s : ByteArray) (w : World) (hs : Sl w 4 A n (Tks l)) (hll : l.length = n) (hn : n ≤ maxLen) (hfw : fewB l = true) (hsz : s.size ≤ 3000) (tab : Tab10 w) (R : Lx.Str) (re : Int) (hR : Lx.Print l = (R, re)) (T : List Lx.Tok) (tp : Nat) (te : Int) (hT : Lx.Tokens (L s) = (T, tp, te)) (S : Lx.Str) (se : Int) (hS : Lx.Print T = (S, se)) (h1 : re ≠ 0) (h2 : te = 0) (h3 : se = 2) :
    Calls Tryd.prog 5 #[.slice A n c, .string s] w fun e w' => e = .returned (.bool true) ∧ Later w w' := by
  have d0 : decide ((3000 : Int) < (s.size : Int)) = false := decide_eq_false (by omega)
  have g0 : ¬ (3000 : Int) < (s.size : Int) := by omega
  have HN := Lib.hid fun w' (h : Later w w') => sanity_any w' (tab.keep h)
  have HF := Lib.hid (few_any A n c l w hs hll hn)
  rw [hfw] at HF
  have HS := Lib.hid fun w' (h : Later w w') => hs.keep h
  have hn100 : n ≤ 100 := by
    unfold fewB at hfw
    rw [Bool.and_eq_true, decide_eq_true_eq] at hfw
    omega
  have HP := Lib.hid fun w' (h : Later w w') => print_any A n c l w' (hs.keep h) hll hn (tab.keep h)
  rw [hR] at HP
  unfold prAns at HP
  have HT := Lib.hid fun w' => tokens_any s w'
  rw [hT] at HT
  unfold GotToks at HT
  have hTl := Tokens_lens (L s)
  rw [hT, L_len] at hTl
  simp only at hTl
  have HQ := Lib.hid fun A2 c2 w' (h2 : Sl w' 4 A2 T.length (Tks T)) (h : Later w w') => print_any A2 T.length c2 T w' h2 rfl (by unfold maxLen; omega) (tab.keep h)
  rw [hS] at HQ
  unfold prAns at HQ
  simp only at HQ
  simp only at HP HT
  have e1 : (re == 0) = false := beq_eq_false_iff_ne.2 h1
  clear h1 hR
  have e2 : (te != 0) = false := by rw [h2]; rfl
  subst h3
  clear h2 hT hS
  clear hs tab hfw
  go_enter Tryd.func5, Tryd.ntmps5
  go_wp2_with (first
    | (go_at_call 15; refine HF.out.mono ?_; rintro e w1 ⟨rfl, l1⟩; have lw := l1)
    | (go_at_call 18; (with_reducible refine (HP.out _ lw).mono ?_); rintro e w2 ⟨rfl, l2⟩; replace lw := Later.trans_ lw l2)
    | (go_at_call 10; (with_reducible refine (HT.out _).mono ?_); rintro e w5 ⟨A5, n5, c5, he5, hn5, _, _, s5, l5⟩; rw [← hn5] at he5 s5; subst he5; clear hn5; have b5 := Blk.new w5 26 #[.int .i64 (tp : Int), .int .i64 te] [.int .i64 (tp : Int), .int .i64 te] rfl; replace lw := Later.trans_ (Later.trans_ lw l5) (later1 w5 (.cells #[.int .i64 (tp : Int), .int .i64 te] 26)); replace s5 := s5.keep (later1 w5 (.cells #[.int .i64 (tp : Int), .int .i64 te] 26)); have c51 := b5.cell (j := 1) (v := .int .i64 te) rfl)
    | (go_at_call 18; (with_reducible refine (HQ.out _ _ _ s5 lw).mono ?_); rintro e w6 ⟨rfl, l6⟩; replace s5 := s5.keep l6; replace lw := Later.trans_ lw l6)
    | (go_at_call 9; refine (HN.out _ lw).mono ?_; rintro e w9 ⟨rfl, l9⟩; replace lw := Later.trans_ lw l9))
  go_ret
  exact ⟨rfl, lw⟩
set_option maxRecDepth 100000 in
set_option maxHeartbeats 8000000 in
theorem back_no_ (A : Option Addr) (n c : Nat) (l : List Lx.Tok) (s : ByteArray) (w : World) (hs : Sl w 4 A n (Tks l)) (hll : l.length = n) (hn : n ≤ maxLen) (hfw : fewB l = true) (hsz : s.size ≤ 3000) (tab : Tab10 w) (R : Lx.Str) (re : Int) (hR : Lx.Print l = (R, re)) (T : List Lx.Tok) (tp : Nat) (te : Int) (hT : Lx.Tokens (L s) = (T, tp, te)) (S : Lx.Str) (se : Int) (hS : Lx.Print T = (S, se)) (h1 : re ≠ 0) (h2 : te = 0) (h3 : se = 0) :
    Calls Tryd.prog 5 #[.slice A n c, .string s] w fun e w' => e = .returned (.bool true) ∧ Later w w' := by
  have d0 : decide ((3000 : Int) < (s.size : Int)) = false := decide_eq_false (by omega)
  have g0 : ¬ (3000 : Int) < (s.size : Int) := by omega
  have HN := Lib.hid fun w' (h : Later w w') => sanity_any w' (tab.keep h)
  have HF := Lib.hid (few_any A n c l w hs hll hn)
  rw [hfw] at HF
  have HS := Lib.hid fun w' (h : Later w w') => hs.keep h
  have hn100 : n ≤ 100 := by
    unfold fewB at hfw
    rw [Bool.and_eq_true, decide_eq_true_eq] at hfw
    omega
  have HP := Lib.hid fun w' (h : Later w w') => print_any A n c l w' (hs.keep h) hll hn (tab.keep h)
  rw [hR] at HP
  unfold prAns at HP
  have HT := Lib.hid fun w' => tokens_any s w'
  rw [hT] at HT
  unfold GotToks at HT
  have hTl := Tokens_lens (L s)
  rw [hT, L_len] at hTl
  simp only at hTl
  have HQ := Lib.hid fun A2 c2 w' (h2 : Sl w' 4 A2 T.length (Tks T)) (h : Later w w') => print_any A2 T.length c2 T w' h2 rfl (by unfold maxLen; omega) (tab.keep h)
  rw [hS] at HQ
  unfold prAns at HQ
  simp only at HQ
  simp only at HP HT
  have e1 : (re == 0) = false := beq_eq_false_iff_ne.2 h1
  clear h1 hR
  have e2 : (te != 0) = false := by rw [h2]; rfl
  subst h3
  obtain ⟨T3, hb3, HC0⟩ := back_any hS
  have HC := Lib.hid HC0
  clear HC0 h2 hT hS
  clear hs tab hfw
  go_enter Tryd.func5, Tryd.ntmps5
  go_wp2_with (first
    | (go_at_call 15; refine HF.out.mono ?_; rintro e w1 ⟨rfl, l1⟩; have lw := l1)
    | (go_at_call 18; (with_reducible refine (HP.out _ lw).mono ?_); rintro e w2 ⟨rfl, l2⟩; replace lw := Later.trans_ lw l2)
    | (go_at_call 10; (with_reducible refine (HT.out _).mono ?_); rintro e w5 ⟨A5, n5, c5, he5, hn5, _, _, s5, l5⟩; rw [← hn5] at he5 s5; subst he5; clear hn5; have b5 := Blk.new w5 26 #[.int .i64 (tp : Int), .int .i64 te] [.int .i64 (tp : Int), .int .i64 te] rfl; replace lw := Later.trans_ (Later.trans_ lw l5) (later1 w5 (.cells #[.int .i64 (tp : Int), .int .i64 te] 26)); replace s5 := s5.keep (later1 w5 (.cells #[.int .i64 (tp : Int), .int .i64 te] 26)); have c51 := b5.cell (j := 1) (v := .int .i64 te) rfl)
    | (go_at_call 18; (with_reducible refine (HQ.out _ _ _ s5 lw).mono ?_); rintro e w6 ⟨rfl, l6⟩; replace s5 := s5.keep l6; replace lw := Later.trans_ lw l6)
    | (go_at_call 10; (with_reducible refine (HC.out _).mono ?_); rintro e w7 ⟨A7, c7, rfl, hm7, s7, l7⟩; have b7 := Blk.new w7 26 #[.int .i64 0, .int .i64 0] [.int .i64 0, .int .i64 0] rfl; replace lw := Later.trans_ (Later.trans_ lw l7) (later1 w7 (.cells #[.int .i64 0, .int .i64 0] 26)); replace s7 := s7.keep (later1 w7 (.cells #[.int .i64 0, .int .i64 0] 26)); replace s5 := (s5.keep l7).keep (later1 w7 (.cells #[.int .i64 0, .int .i64 0] 26)))
    | (go_at_call 9; refine (HN.out _ lw).mono ?_; rintro e w9 ⟨rfl, l9⟩; replace lw := Later.trans_ lw l9; replace b7 := b7.keep l9; replace s7 := s7.keep l9; replace s5 := s5.keep l9; have c71 := b7.cell (j := 1) (v := .int .i64 0) rfl)
    | (go_at_call 14; (with_reducible refine (same_any A7 A5 T.length c7 c5 T3 T true _ s7 s5 hm7 rfl (by omega) (fun h => by cases h) (fun _ => hb3)).mono ?_); rintro e w8 ⟨rfl, l8⟩; replace lw := Later.trans_ lw l8))
  go_ret
  exact ⟨rfl, lw⟩
theorem back_all (A : Option Addr) (n c : Nat) (l : List Lx.Tok) (s : ByteArray) (w : World) (hs : Sl w 4 A n (Tks l)) (hll : l.length = n) (hn : n ≤ maxLen) (tab : Tab10 w) :
    Calls Tryd.prog 5 #[.slice A n c, .string s] w fun e w' => e = .returned (.bool true) ∧ Later w w' := by
  by_cases h : fewB l = true ∧ s.size ≤ 3000
  · obtain ⟨hf, hz⟩ := h
    obtain ⟨R, re, hR⟩ : ∃ R re, Lx.Print l = (R, re) := ⟨_, _, rfl⟩
    obtain ⟨T, tp, te, hT⟩ : ∃ T tp te, Lx.Tokens (L s) = (T, tp, te) := ⟨_, _, _, rfl⟩
    obtain ⟨S, se, hS⟩ : ∃ S se, Lx.Print T = (S, se) := ⟨_, _, rfl⟩
    have hse : se = 0 ∨ se = 2 := by
      have := Lx.print_tokens (l := L s) (by rw [L_len]; omega)
      rw [hT] at this
      simp only at this
      rw [hS] at this
      exact this
    by_cases h1 : re = 0
    · by_cases h2 : te = 0
      · rcases hse with h3 | h3
        · exact back_po A n c l s w hs hll hn hf hz tab R re hR T tp te hT S se hS h1 h2 h3
        · exact back_pl A n c l s w hs hll hn hf hz tab R re hR T tp te hT S se hS h1 h2 h3
      · exact back_pe A n c l s w hs hll hn hf hz tab R re hR T tp te hT S se hS h1 h2
    · by_cases h2 : te = 0
      · rcases hse with h3 | h3
        · exact back_no_ A n c l s w hs hll hn hf hz tab R re hR T tp te hT S se hS h1 h2 h3
        · exact back_nl A n c l s w hs hll hn hf hz tab R re hR T tp te hT S se hS h1 h2 h3
      · exact back_ne A n c l s w hs hll hn hf hz tab R re hR T tp te hT S se hS h1 h2
  · exact back_no A n c l s w hs hll hn h tab

set_option maxRecDepth 100000 in
theorem lexerReadsBack_contract (H : Type) (enc : TypeId × Value → H) (W : World) (base : Nat) (args : Array Value) (ds gs : List (DataW H)) (before : List MemPlace)
    (hval : ∀ (j : Nat) t v, Tryd.f5.params[j]? = some t → args[j]? = some v → Value.okWide Tryd.prog W .any base t v)
    (hW : DataW.Whole enc Tryd.prog Tryd.f5.params.toList Rows.lexerReadsBackSpec.vars false W args.toList ds gs before) (hL : laidMetH Tryd.prog Rows.lexerReadsBackRow.laid W) :
    Calls Tryd.prog 5 args W fun e W' => ∃ v, e = .returned v ∧ Rows.lexerReadsBackSpec.post enc Tryd.prog Tryd.f5 false true false false W args v W' := by
  have hW' := hW
  have tab : Tab10 W := tab10_of hL
  obtain ⟨p, q, hA0, hV, rfl, _, _⟩ := hW
  have hA : DataW.TrodAll enc Tryd.prog W 0 (fun _ => true) true Tryd.f5.params.toList args.toList ds p := hA0
  rw [Tryd.params5] at hA hval
  obtain ⟨v0, vs0, d0, ds0, p0, q0, hargs, rfl, rfl, h0, r0⟩ := trodAll_cons hA
  obtain ⟨v1, vs1, d1, ds1, p1, q1, rfl, rfl, rfl, h1, r1⟩ := trodAll_cons r0
  obtain ⟨rfl, rfl, rfl⟩ := trodAll_nil r1
  obtain rfl : args = #[v0, v1] := by cases args; simp_all
  obtain ⟨rfl, rfl⟩ := trodVars_none hV
  obtain ⟨A0, n0, c0, l0, rfl, x0, y0, s0, z0⟩ := tokens_arg Tryd.underlying23 Tryd.underlying41 rfl rfl rfl rfl Tryd.underlying3 Tryd.underlying3 Tryd.underlying3 Tryd.underlying9 (by kernel_rfl) (by kernel_rfl) (by kernel_rfl) (by kernel_rfl) (by kernel_rfl) (hval 0 23 v0 rfl rfl) h0
  obtain ⟨s1, rfl, x1⟩ := str_arg Tryd.underlying9 (hval 1 9 v1 rfl rfl) h1
  clear hA0
  simp only [List.append_nil] at hW'
  refine (back_all A0 n0 c0 l0 s1 W s0 z0 (Nat.le_trans x0 y0) tab).mono fun e W' ⟨he, hw⟩ => ?_
  subst he
  exact ⟨_, rfl, law_post laidK rfl (by kernel_rfl) (by kernel_rfl) Tryd.underlying4 (by kernel_rfl) hW' rfl hw⟩
set_option maxRecDepth 100000 in
theorem lexerReadsBack_met (os : Os) : laidMet Tryd.prog Rows.lexerReadsBackRow.laid ((laidWorld os).forCall (fun _ _ => 0) ⟨#[], #[.slice none 0 0, .string ⟨#[]⟩], []⟩).memory :=
  laidMet_of_run' 8 (by kernel_rfl) (by kernel_rfl)
set_option maxRecDepth 100000 in
theorem lexerReadsBack_reads (os : Os) {H : Type} (enc : TypeId × Value → H) : ∃ places, DataW.whole enc Tryd.prog ((laidWorld os).forCall (fun _ _ => 0) ⟨#[], #[.slice none 0 0, .string ⟨#[]⟩], []⟩).memory Tryd.f5.params.toList Rows.lexerReadsBackSpec.vars false (#[.slice none 0 0, .string ⟨#[]⟩] : Array Value).toList 8 = some ([.nil, .lit (.string [])], [], places) :=
  ⟨[], by kernel_rfl⟩

set_option maxRecDepth 100000 in
theorem lexerReadsBack_lifted (os : Os) (started : os.Started) (H : Type) (enc : TypeId × Value → H) (F : Stop.Interp) :
    ReturnsInHanded {} Tryd.checked os 5 .any ((OpenSpec.ofChange Rows.lexerReadsBackSpec).preRow enc Tryd.prog Tryd.f5 Rows.lexerReadsBackRow.domain false Rows.lexerReadsBackRow.laid) (((OpenSpec.ofChange Rows.lexerReadsBackSpec).at F).post enc Tryd.prog Tryd.f5 false true false false) := by
  obtain ⟨places, hx⟩ := lexerReadsBack_reads os enc
  refine returnsInHanded_of_row (C := Tryd.checked) (s := OpenSpec.ofChange Rows.lexerReadsBackSpec) ownK started (by kernel_rfl) Tryd.func5
    (witness_row_at (enc := enc) (C := Tryd.checked) false (laidWorld os) #[.slice none 0 0, .string ⟨#[]⟩] rfl (by kernel_rfl) (by kernel_rfl) (by kernel_rfl)
      (OpenSpec.preRow_of_cond 8 hx (by kernel_rfl) (fun k hk => by cases hk) (by kernel_rfl) (lexerReadsBack_met os))) ?_
  intro W base args ds gs before hval hW _ _ _ hL _ _
  exact lexerReadsBack_contract H enc W base args ds gs before hval hW hL

set_option maxRecDepth 100000 in
theorem lexerReadsBack_said : Rows.LexerReadsBackSaid :=
  OpenClaim.holds_of_cond 5 Tryd.f5 rfl rfl rfl rfl rfl rfl rfl ⟨rfl, rfl, rfl, rfl, rfl⟩ rfl rfl rfl rfl rfl (by kernel_rfl) Tryd.func5 (by kernel_rfl)
    (of_decide_eq_true (by kernel_rfl)) (by unfold Func.isWrapper; first | (rw [if_pos (by decide +kernel)]; kernel_rfl) | (rw [if_neg (by decide +kernel)]; exact ⟨rfl, rfl⟩))
    (fun os started H enc _ F => by rw [OpenClaim.pre_eq_preRow]; exact lexerReadsBack_lifted os started H enc F)

set_option maxRecDepth 100000 in
theorem lexerReadsBack_plain (f : FuncId) (fn : Func) (hf : Tryd.pinned.checked.prog.funcNamed "simulacrum/simulacrumlaw07.LexerReadsBack" = some f) (hfn : Tryd.pinned.checked.prog.funcs[f]? = some fn) :
    false = Tryd.pinned.checked.prog.looks [] ∧ ∀ (j : Nat) t, fn.params[j]? = some t → Tryd.pinned.checked.prog.wantsStandIn t = false := by
  obtain rfl : f = 5 := Option.some.inj ((show Tryd.prog.funcNamed "simulacrum/simulacrumlaw07.LexerReadsBack" = some 5 by kernel_rfl).symm.trans hf) |>.symm
  obtain rfl : fn = Tryd.f5 := (Option.some.inj (Tryd.func5.symm.trans hfn)).symm
  refine ⟨by kernel_rfl, fun j t ht => ?_⟩
  exact wants_none 5 Tryd.f5.params (by kernel_rfl) j t ht

set_option maxRecDepth 100000 in
/-- The card. -/
theorem lexerReadsBack_card : Rows.LexerReadsBackCardSaid :=
  Claim7.holds_tied_plain_at .later [] _ _ _ _ lexerReadsBack_said (fun _ h => by cases h) (by kernel_rfl) (fun _ h => by cases h) lexerReadsBack_row_tie rfl ⟨rfl, rfl⟩ (by kernel_rfl) rfl lexerReadsBack_plain (by kernel_rfl)
#print axioms lexerReadsBack_card

end Go.Proofs.YtnoajpcgegocdaaDoor
