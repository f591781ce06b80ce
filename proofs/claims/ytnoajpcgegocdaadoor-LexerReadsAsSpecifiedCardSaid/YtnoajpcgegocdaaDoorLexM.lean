/-
  THE WALK OF the reference's token.
-/
import Derived.Test.YtnoajpcgegocdaaDoorLexL
namespace Go.Proofs.YtnoajpcgegocdaaDoor
open Go.RowKit Go.ChangeShapes Go.WideShapes Go.ChangeAt

def rtokAns (a : Nat) (r : Lx.Tok × Nat × Int) : List Value := if r.2.2 = 0 then Pc { r.1 with at_ := (a : Int) } ((a + r.2.1 : Nat) : Int) 0 else Pc Lx.Tok.zero 0 r.2.2
theorem L_mid (s : ByteArray) (a b : Nat) : L (s.extract a (a + b)) = ((L s).drop a).take b := by
  simp only [L, ByteArray.data_extract, Array.toList_extract, List.extract_eq_take_drop]
  rw [show a + b - a = b by omega]
theorem tok_end (r : Lx.Str) : Lx.tok1 (10 :: r) = (⟨5, 0, 0, []⟩, 1, 0) := by
  rw [Lx.tok1_cons, if_neg (by decide), if_neg (by decide), if_neg (by decide), if_neg (by decide), if_pos rfl]
theorem arr_of {x y : List Value} (h : y = x) : x.toArray = y.toArray := by rw [h]

set_option maxRecDepth 100000 in
set_option maxHeartbeats 4000000 in
theorem rtoken_any (s : ByteArray) (a : Nat) (w : World) (ha : a < s.size) (hs : s.size ≤ 1000000) : Calls Tryd.prog 29 #[.string s, .int .i64 a] w fun e w' => e = .returned (.agg (rtokAns a (Lx.tok1 ((L s).drop a))).toArray) ∧ Later w w' := by
  have hlen := L_len s
  have hal : a < (L s).length := by omega
  obtain ⟨c, hc⟩ : ∃ c, s[a]'ha = c := ⟨_, rfl⟩
  have hcl : (L s)[a]'hal = c := by rw [← L_get s a ha, hc]
  have hdr : (L s).drop a = c :: (L s).drop (a + 1) := by rw [Lx.drop_at hal, hcl]
  have HL := Lib.hid fun w' => letter_any c w'
  have HD := Lib.hid fun w' => digit_any c w'
  have HS := Lib.hid fun w' => sign_any c w'
  have HRun := Lib.hid fun w' => run_any s a w' (by omega) hs
  have HTx := Lib.hid fun w' => rtext_any s a w' ha hs
  have hwl := Lx.word_le ((L s).drop a)
  rw [List.length_drop] at hwl
  have hmid := L_mid s a (Lx.word ((L s).drop a)).length
  rw [word_take] at hmid
  have hmid1 := L_mid s a 1
  rw [hdr] at hmid1
  by_cases e10 : c = 10
  · subst e10
    rw [hdr, tok_end]
    rw [show rtokAns a (⟨5, 0, 0, []⟩, 1, 0) = Pc ⟨5, a, 0, []⟩ ((a : Int) + 1) 0 by unfold rtokAns; rw [if_pos rfl]; rfl]
    have b1 := ceqT (c := 10) (k := 10) rfl rfl
    clear hcl hdr hmid hmid1 hwl
    go_enter Tryd.func29, Tryd.ntmps29
    go_wp2
    exact bodyPost_ret (v := .agg (Pc ⟨5, a, 0, []⟩ ((a : Int) + 1) 0).toArray) (results_blk Tryd.results29 _ _ w.heap.size 78 (Pc ⟨5, a, 0, []⟩ ((a : Int) + 1) 0) _ rfl (Blk.new w _ _ _ rfl) Tryd.underlying78 rfl (pc_sz _ _ _)) rfl ⟨rfl, later1 _ _⟩
  have b1 := ceqF (k := 10) e10 rfl
  have htk := Lx.tok1_cons c ((L s).drop (a + 1))
  rw [← hdr] at htk
  cases h1 : Lx.letterB c with
  | true =>
    rw [h1, if_pos rfl] at htk
    rw [h1] at HL
    rw [htk]
    obtain ⟨l, hl⟩ : ∃ l, Lx.word ((L s).drop a) = l := ⟨_, rfl⟩
    rw [hl] at HRun hwl hmid ⊢
    by_cases h32 : l.length ≤ 32
    · rw [if_pos h32]
      have hm := mk_s _ _ hmid
      have hp : rtokAns a (⟨1, 0, 0, l⟩, l.length, 0) = [.int .i64 1, .int .i64 a, .int .i64 0, .string (s.extract a (a + l.length)), .int .i64 ((a + l.length : Nat) : Int), .int .i64 0] := by unfold rtokAns; rw [if_pos rfl, ← hm]; rfl
      rw [hp]
      have g1 : decide ((32 : Int) < ((a + l.length : Nat) : Int) - (a : Int)) = false := decide_eq_false (by omega)
      have t1 : ((a + l.length : Nat) : Int).toNat = a + l.length := by omega
      clear hp hm hmid htk hl h1 hcl hdr hmid1
      go_enter Tryd.func29, Tryd.ntmps29
      go_wp2_with (first
        | (go_at_call 33; refine (HL.out _).mono ?_; rintro e w' ⟨rfl, rfl⟩)
        | (go_at_call 34; refine (HRun.out _).mono ?_; rintro e w' ⟨rfl, rfl⟩))
      exact bodyPost_ret (v := .agg ([.int .i64 1, .int .i64 a, .int .i64 0, .string (s.extract a (a + l.length)), .int .i64 ((a + l.length : Nat) : Int), .int .i64 0] : List Value).toArray) (results_blk Tryd.results29 _ _ w.heap.size 78 ([.int .i64 1, .int .i64 a, .int .i64 0, .string (s.extract a (a + l.length)), .int .i64 ((a + l.length : Nat) : Int), .int .i64 0]) _ rfl (Blk.new w _ _ _ rfl) Tryd.underlying78 rfl (pc_sz ⟨1, a, 0, L (s.extract a (a + l.length))⟩ ((a + l.length : Nat) : Int) 0)) rfl ⟨rfl, later1 _ _⟩
    · rw [if_neg h32]
      rw [show rtokAns a (Lx.Tok.zero, 0, 2) = Pc Lx.Tok.zero 0 2 from rfl]
      have g1 : decide ((32 : Int) < ((a + l.length : Nat) : Int) - (a : Int)) = true := decide_eq_true (by omega)
      have t1 : ((a + l.length : Nat) : Int).toNat = a + l.length := by omega
      clear hmid htk hl h1 hcl hdr hmid1
      go_enter Tryd.func29, Tryd.ntmps29
      go_wp2_with (first
        | (go_at_call 33; refine (HL.out _).mono ?_; rintro e w' ⟨rfl, rfl⟩)
        | (go_at_call 34; refine (HRun.out _).mono ?_; rintro e w' ⟨rfl, rfl⟩))
      exact bodyPost_ret (v := .agg (Pc Lx.Tok.zero 0 2).toArray) (results_blk Tryd.results29 _ _ w.heap.size 78 (Pc Lx.Tok.zero 0 2) _ rfl (Blk.new w _ _ _ rfl) Tryd.underlying78 rfl (pc_sz _ _ _)) rfl ⟨rfl, later1 _ _⟩
  | false =>
    rw [h1, if_neg (by decide)] at htk
    rw [h1] at HL
    cases h2 : Lx.digitB c with
    | true =>
      rw [h2, if_pos rfl] at htk
      rw [h2] at HD
      rw [htk]
      obtain ⟨l, hl⟩ : ∃ l, Lx.word ((L s).drop a) = l := ⟨_, rfl⟩
      rw [hl] at HRun hwl hmid ⊢
      have HN := Lib.hid fun w' => by
        have h := number_any (s.extract a (a + l.length)) w' (by rw [← L_len, hmid]; omega)
        rw [hmid] at h
        exact h
      have t1 : ((a + l.length : Nat) : Int).toNat = a + l.length := by omega
      cases hn : Lx.number l with
      | some n =>
        rw [hn] at HN
        unfold numI at HN
        simp only at HN
        rw [show rtokAns a (⟨2, 0, (n : Int), []⟩, l.length, 0) = Pc ⟨2, a, n, []⟩ ((a + l.length : Nat) : Int) 0 by unfold rtokAns; rw [if_pos rfl]]
        have g1 : decide ((n : Int) < 0) = false := decide_eq_false (by omega)
        clear hmid htk hl h1 hcl hdr hmid1 hn h2
        go_enter Tryd.func29, Tryd.ntmps29
        go_wp2_with (first
          | (go_at_call 33; refine (HL.out _).mono ?_; rintro e w' ⟨rfl, rfl⟩)
          | (go_at_call 49; refine (HD.out _).mono ?_; rintro e w' ⟨rfl, rfl⟩)
          | (go_at_call 34; refine (HRun.out _).mono ?_; rintro e w' ⟨rfl, rfl⟩)
          | (go_at_call 50; refine (HN.out _).mono ?_; rintro e w' ⟨rfl, rfl⟩))
        exact bodyPost_ret (v := .agg (Pc ⟨2, a, n, []⟩ ((a + l.length : Nat) : Int) 0).toArray) (results_blk Tryd.results29 _ _ w.heap.size 78 (Pc ⟨2, a, n, []⟩ ((a + l.length : Nat) : Int) 0) _ rfl (Blk.new w _ _ _ rfl) Tryd.underlying78 rfl (pc_sz _ _ _)) rfl ⟨rfl, later1 _ _⟩
      | none =>
        rw [hn] at HN
        unfold numI at HN
        simp only at HN
        rw [show rtokAns a (Lx.Tok.zero, 0, 71) = Pc Lx.Tok.zero 0 71 from rfl]
        clear hmid htk hl h1 hcl hdr hmid1 hn h2
        go_enter Tryd.func29, Tryd.ntmps29
        go_wp2_with (first
          | (go_at_call 33; refine (HL.out _).mono ?_; rintro e w' ⟨rfl, rfl⟩)
          | (go_at_call 49; refine (HD.out _).mono ?_; rintro e w' ⟨rfl, rfl⟩)
          | (go_at_call 34; refine (HRun.out _).mono ?_; rintro e w' ⟨rfl, rfl⟩)
          | (go_at_call 50; refine (HN.out _).mono ?_; rintro e w' ⟨rfl, rfl⟩))
        exact bodyPost_ret (v := .agg (Pc Lx.Tok.zero 0 71).toArray) (results_blk Tryd.results29 _ _ w.heap.size 78 (Pc Lx.Tok.zero 0 71) _ rfl (Blk.new w _ _ _ rfl) Tryd.underlying78 rfl (pc_sz _ _ _)) rfl ⟨rfl, later1 _ _⟩
    | false =>
      rw [h2, if_neg (by decide)] at htk
      rw [h2] at HD
      by_cases h3 : c = 34
      · rw [if_pos h3] at htk
        have b3 := ceqT (k := 34) h3 rfl
        have hp : rtokAns a (Lx.tok1 ((L s).drop a)) = rtextAns a (Lx.text ((L s).drop (a + 1))) := by
          rw [htk]
          unfold rtokAns rtextAns
          by_cases h0 : (Lx.text ((L s).drop (a + 1))).2 = 0
          · rw [if_pos h0, if_pos h0]; rfl
          · rw [if_neg h0, if_neg h0]
            simp only
            rw [if_pos trivial, show a + ((Lx.text ((L s).drop (a + 1))).2 + 1) = a + 1 + (Lx.text ((L s).drop (a + 1))).2 by omega]
        have hpz : ∃ t nx e, rtextAns a (Lx.text ((L s).drop (a + 1))) = Pc t nx e := by
          unfold rtextAns
          split
          · exact ⟨_, _, _, rfl⟩
          · exact ⟨_, _, _, rfl⟩
        rw [hp]
        obtain ⟨t, nx, ee, hpz⟩ := hpz
        rw [hpz] at HTx ⊢
        clear hmid htk h1 hcl hdr hmid1 h2 h3 hp hpz
        go_enter Tryd.func29, Tryd.ntmps29
        go_wp2_with (first
          | (go_at_call 33; refine (HL.out _).mono ?_; rintro e w' ⟨rfl, rfl⟩)
          | (go_at_call 49; refine (HD.out _).mono ?_; rintro e w' ⟨rfl, rfl⟩)
          | (go_at_call 51; refine (HTx.out _).mono ?_; rintro e w' ⟨rfl, l1⟩; have b2 := (Blk.new w 78 _ (Pc Lx.Tok.zero 0 0) rfl).keep l1)
          | (refine wpList_store_abs (o := ⟨none, .store 78 (.tmp 4) (.tmp 63), _, _, _, none⟩) rfl _ _ _ rfl w.heap.size 78 _ (Pc t nx ee) rfl rfl b2 (pc_sz _ _ _) rfl (pc_one _ _ _) ?_; intro w3 z1 z2))
        exact bodyPost_ret (v := .agg (Pc t nx ee).toArray) (results_blk Tryd.results29 _ _ w.heap.size 78 _ _ rfl z1 Tryd.underlying78 rfl (pc_sz _ _ _)) rfl ⟨rfl, Below.only (Later.trans_ (later1 _ _) l1) z2 (Nat.le_refl _)⟩
      · rw [if_neg h3] at htk
        have b3 := ceqF (k := 34) h3 rfl
        cases h4 : Lx.signB c with
        | true =>
          rw [h4, if_pos rfl] at htk
          rw [h4] at HS
          rw [htk]
          have hm := mk_s _ _ hmid1
          have hp : rtokAns a (⟨4, 0, 0, [c]⟩, 1, 0) = [.int .i64 4, .int .i64 a, .int .i64 0, .string (s.extract a (a + 1)), .int .i64 ((a : Int) + 1), .int .i64 0] := by unfold rtokAns; rw [if_pos rfl, ← hm]; rfl
          rw [hp]
          have t1 : ((a : Int) + 1).toNat = a + 1 := by omega
          clear hp hm hmid htk h1 hcl hdr hmid1 h2 h3 h4
          go_enter Tryd.func29, Tryd.ntmps29
          go_wp2_with (first
            | (go_at_call 33; refine (HL.out _).mono ?_; rintro e w' ⟨rfl, rfl⟩)
            | (go_at_call 49; refine (HD.out _).mono ?_; rintro e w' ⟨rfl, rfl⟩)
            | (go_at_call 35; refine (HS.out _).mono ?_; rintro e w' ⟨rfl, rfl⟩))
          exact bodyPost_ret (v := .agg ([.int .i64 4, .int .i64 a, .int .i64 0, .string (s.extract a (a + 1)), .int .i64 ((a : Int) + 1), .int .i64 0] : List Value).toArray) (results_blk Tryd.results29 _ _ w.heap.size 78 ([.int .i64 4, .int .i64 a, .int .i64 0, .string (s.extract a (a + 1)), .int .i64 ((a : Int) + 1), .int .i64 0]) _ rfl (Blk.new w _ _ _ rfl) Tryd.underlying78 rfl (pc_sz ⟨4, a, 0, L (s.extract a (a + 1))⟩ ((a : Int) + 1) 0)) rfl ⟨rfl, later1 _ _⟩
        | false =>
          rw [h4, if_neg (by decide), if_neg e10] at htk
          rw [h4] at HS
          rw [htk]
          rw [show rtokAns a (Lx.Tok.zero, 0, 70) = Pc Lx.Tok.zero 0 70 from rfl]
          clear hmid htk h1 hcl hdr hmid1 h2 h3 h4
          go_enter Tryd.func29, Tryd.ntmps29
          go_wp2_with (first
            | (go_at_call 33; refine (HL.out _).mono ?_; rintro e w' ⟨rfl, rfl⟩)
            | (go_at_call 49; refine (HD.out _).mono ?_; rintro e w' ⟨rfl, rfl⟩)
            | (go_at_call 35; refine (HS.out _).mono ?_; rintro e w' ⟨rfl, rfl⟩))
          exact bodyPost_ret (v := .agg (Pc Lx.Tok.zero 0 70).toArray) (results_blk Tryd.results29 _ _ w.heap.size 78 (Pc Lx.Tok.zero 0 70) _ rfl (Blk.new w _ _ _ rfl) Tryd.underlying78 rfl (pc_sz _ _ _)) rfl ⟨rfl, later1 _ _⟩
end Go.Proofs.YtnoajpcgegocdaaDoor
