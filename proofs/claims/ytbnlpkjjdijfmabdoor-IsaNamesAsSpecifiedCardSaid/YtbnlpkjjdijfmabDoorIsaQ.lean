/-
  THE WALKS OF the reference's Names, Name, Find, Access; the statement IsaNamesAsSpecified.
-/
import Derived.Test.YtbnlpkjjdijfmabDoorIsaRg
import Derived.Test.YtbnlpkjjdijfmabDoorIsaO
namespace Go.Proofs.YtbnlpkjjdijfmabDoor
open Go.RowKit Go.ChangeShapes Go.WideShapes Go.ChangeAt

def GotNames (w : World) (e : Ending) (w' : World) : Prop := ∃ B, e = .returned (.slice (some ⟨B, 0, none⟩) 49 49) ∧ Hid (Blk w' B 9 (Strs Im.names)) ∧ Later w w'
set_option maxRecDepth 100000 in
set_option maxHeartbeats 4000000 in
theorem refNames_any (w : World) : Calls Tryd.prog 42 #[] w (GotNames w) := by
  go_enter Tryd.func42, Tryd.ntmps42
  go_wp2
  go_ret
  exact ⟨w.heap.size, rfl, Lib.hid (Blk.new _ _ _ _ rfl), later1 _ _⟩
theorem names_cell {w : World} {B : Nat} (h : Blk w B 9 (Strs Im.names)) {k : Nat} (hk : k < 49) : w.cell? ⟨B, k, none⟩ = some (.string (Im.nameN k)) := by
  refine h.cell ?_
  unfold Strs Im.nameN
  rw [List.getElem?_map, List.getElem?_eq_getElem (by rw [Im.names_len]; exact hk), List.getD_eq_getElem?_getD, List.getElem?_eq_getElem (by rw [Im.names_len]; exact hk)]
  rfl
set_option maxRecDepth 100000 in
set_option maxHeartbeats 4000000 in
theorem refName_any (op : Int) (w : World) : Calls Tryd.prog 28 #[.int .i64 op] w fun e w' => e = .returned (.string (Im.name op)) ∧ Later w w' := by
  have HN := Lib.hid (refNames_any w)
  rcases Int.lt_or_le op 0 with h | h
  · rw [Im.name_out (.inl h)]
    go_enter Tryd.func28, Tryd.ntmps28
    go_wp2_with (go_at_call 42; refine (HN.out).mono ?_; rintro e w1 ⟨B, rfl, HB, l1⟩)
    go_ret
    exact ⟨rfl, l1⟩
  · rcases Int.lt_or_le op 49 with h2 | h2
    · obtain ⟨k, rfl⟩ := Int.eq_ofNat_of_zero_le h
      have hk : k < 49 := by omega
      have g : ¬ (k : Int) < 0 := by omega
      have g2 : ¬ 49 ≤ (k : Int) := by omega
      rw [Im.name_nat]
      go_enter Tryd.func28, Tryd.ntmps28
      go_wp2_with (go_at_call 42; refine (HN.out).mono ?_; rintro e w1 ⟨B, rfl, HB, l1⟩; have c0 := names_cell HB.out hk)
      go_ret
      exact ⟨rfl, l1⟩
    · rw [Im.name_out (.inr h2)]
      have g : ¬ op < 0 := by omega
      go_enter Tryd.func28, Tryd.ntmps28
      go_wp2_with (go_at_call 42; refine (HN.out).mono ?_; rintro e w1 ⟨B, rfl, HB, l1⟩)
      go_ret
      exact ⟨rfl, l1⟩
theorem hit_eq {s : ByteArray} {k : Nat} (hk : k < 49) : hit s k = ((Im.nameN k).toList == s.toList && s.toList != []) := by
  unfold hit
  have h := names_form ⟨k, hk⟩
  dsimp only at h
  by_cases he : (Im.nameN k).toList = s.toList
  · rw [he] at h ⊢
    cases h1 : (Im.formN k == 0) <;> rw [h1] at h <;> simp [bne, h1, h]
  · have : ((Im.nameN k).toList == s.toList) = false := beq_eq_false_iff_ne.2 he
    rw [this]; simp
set_option maxRecDepth 100000 in
set_option maxHeartbeats 4000000 in
theorem refFind_any (s : ByteArray) (w : World) : Calls Tryd.prog 32 #[.string s] w fun e w' => e = .returned (.int .i64 (findI s)) ∧ Later w w' := by
  have HN := Lib.hid (refNames_any w)
  obtain ⟨F, hF⟩ : ∃ F, F = findI s := ⟨_, rfl⟩
  rw [← hF]
  have HF := Lib.hid hF; clear hF
  go_enter Tryd.func32, Tryd.ntmps32
  go_wp2_with (go_at_call 42; refine (HN.out).mono ?_; rintro e w1 ⟨B, rfl, HB, l1⟩)
  go_loopw [4] (fun i wr => ∃ k : Nat, k ≤ 49 ∧ i = .int .i64 k ∧ Hid (∀ j, j < k → hit s j = false) ∧ w1 = wr) (fun i _ => 49 - (intOf i).toNat)
  case atStart => exact ⟨0, Nat.zero_le _, rfl, Lib.hid (fun j hj => absurd hj (Nat.not_lt_zero j)), rfl⟩
  case round =>
    obtain ⟨k, hk, rfl, HP, rfl⟩ := hrel
    by_cases hlt : k < 49
    · have c0 := names_cell HB.out hlt
      have HH := Lib.hid (hit_eq (s := s) hlt)
      by_cases h1 : (Im.nameN k).toList = s.toList
      · have he : ((Im.nameN k).toList == s.toList) = true := beq_iff_eq.2 h1
        by_cases h2 : s.toList = []
        · have h3 : (s.toList == []) = true := beq_iff_eq.2 h2
          have hh : hit s k = false := by rw [HH.out, he, Bool.true_and, bne, h3]; rfl
          have H4 := Lib.hid hh; clear hh h1 h2
          go_wp2
          go_roundw
          case rel => exact ⟨k + 1, by omega, by go_num, Lib.hid (fun j hj => by rcases Nat.lt_succ_iff_lt_or_eq.1 hj with h | h; exact HP.out j h; rw [h]; exact H4.out), trivial⟩
          case measure => simp [intOf]; omega
        · have h3 : (s.toList == []) = false := beq_eq_false_iff_ne.2 h2
          have hf : F = k := by rw [HF.out]; exact findI_hit hlt (by rw [HH.out, he, Bool.true_and, bne, h3]; rfl) HP.out
          clear h1 h2
          go_wp2
          go_ret
          exact ⟨by rw [hf]; rfl, l1⟩
      · have he : ((Im.nameN k).toList == s.toList) = false := beq_eq_false_iff_ne.2 h1
        have hh : hit s k = false := by rw [HH.out, he, Bool.false_and]
        have H4 := Lib.hid hh; clear hh h1
        go_wp2
        go_roundw
        case rel => exact ⟨k + 1, by omega, by go_num, Lib.hid (fun j hj => by rcases Nat.lt_succ_iff_lt_or_eq.1 hj with h | h; exact HP.out j h; rw [h]; exact H4.out), trivial⟩
        case measure => simp [intOf]; omega
    · obtain rfl : k = 49 := by omega
      have hf : F = 0 := by rw [HF.out]; exact findI_none HP.out
      go_wp2
      go_ret
      exact ⟨by rw [hf]; rfl, l1⟩
set_option maxRecDepth 100000 in
theorem acc_ret {w : World} {fn : Func} {p : Tmp} (h : fn.results = #[.cell p 52]) (tmps : Array Value) (g : Nat) (t : TypeId) (x y : Value)
    (hp : tmps.getD p undef = .pointer (some ⟨g, 0, none⟩)) (hg : Blk w g t [x, y]) : (results fn tmps).run Tryd.prog w = .ok (.agg #[x, y]) w :=
  results_blk h tmps w g t [x, y] _ hp hg Tryd.underlying52 rfl (by kernel_rfl)
set_option maxRecDepth 100000 in
set_option maxHeartbeats 4000000 in
theorem refAccess_any (op : Int) (w : World) : Calls Tryd.prog 24 #[.int .i64 op] w fun e w' => e = .returned (.agg #[.int .i64 (accA op), .int .i64 (accS op)]) ∧ Later w w' := by
  unfold accA accS
  by_cases h20 : op = 20
  · subst h20
    go_enter Tryd.func24, Tryd.ntmps24
    go_wp2
    exact bodyPost_ret (v := .agg _) (acc_ret Tryd.results24 _ w.heap.size _ _ _ rfl (Blk.new _ _ _ _ rfl)) rfl ⟨rfl, later1 _ _⟩
  by_cases h22 : op = 22
  · subst h22
    go_enter Tryd.func24, Tryd.ntmps24
    go_wp2
    exact bodyPost_ret (v := .agg _) (acc_ret Tryd.results24 _ w.heap.size _ _ _ rfl (Blk.new _ _ _ _ rfl)) rfl ⟨rfl, later1 _ _⟩
  by_cases h21 : op = 21
  · subst h21
    go_enter Tryd.func24, Tryd.ntmps24
    go_wp2
    exact bodyPost_ret (v := .agg _) (acc_ret Tryd.results24 _ w.heap.size _ _ _ rfl (Blk.new _ _ _ _ rfl)) rfl ⟨rfl, later1 _ _⟩
  by_cases h23 : op = 23
  · subst h23
    go_enter Tryd.func24, Tryd.ntmps24
    go_wp2
    exact bodyPost_ret (v := .agg _) (acc_ret Tryd.results24 _ w.heap.size _ _ _ rfl (Blk.new _ _ _ _ rfl)) rfl ⟨rfl, later1 _ _⟩
  by_cases h24 : op = 24
  · subst h24
    go_enter Tryd.func24, Tryd.ntmps24
    go_wp2
    exact bodyPost_ret (v := .agg _) (acc_ret Tryd.results24 _ w.heap.size _ _ _ rfl (Blk.new _ _ _ _ rfl)) rfl ⟨rfl, later1 _ _⟩
  rw [if_neg h20, if_neg h22, if_neg h21, if_neg h23, if_neg h24, if_neg h20, if_neg h22, if_neg h21, if_neg h23, if_neg h24]
  have n20 : (op == 20) = false := beq_eq_false_iff_ne.2 h20
  have n22 : (op == 22) = false := beq_eq_false_iff_ne.2 h22
  have n21 : (op == 21) = false := beq_eq_false_iff_ne.2 h21
  have n23 : (op == 23) = false := beq_eq_false_iff_ne.2 h23
  have n24 : (op == 24) = false := beq_eq_false_iff_ne.2 h24
  clear h20 h22 h21 h23 h24
  go_enter Tryd.func24, Tryd.ntmps24
  go_wp2
  exact bodyPost_ret (v := .agg _) (acc_ret Tryd.results24 _ w.heap.size _ _ _ rfl (Blk.new _ _ _ _ rfl)) rfl ⟨rfl, later1 _ _⟩
set_option maxRecDepth 100000 in
set_option maxHeartbeats 4000000 in
theorem lawNames_any (op : Int) (s : ByteArray) (w : World) (tab : Tab w) :
    Calls Tryd.prog 5 #[.int .i64 op, .string s] w fun e w' => e = .returned (.bool true) ∧ Later w w' := by
  have SA := Lib.hid (fun w' (hl : Later w w') => sanity_any w' (tab.keep hl))
  rcases Nat.lt_or_ge 100 s.size with h | h
  · clear tab
    go_enter Tryd.func5, Tryd.ntmps5
    go_wp2_with (go_at_call 13; refine (SA.out w (Below.refl _ _)).mono ?_; rintro e w1 ⟨rfl, l1⟩)
    go_ret
    exact ⟨rfl, l1⟩
  · have F1 := Lib.hid (fun w' (hl : Later w w') => form_any op w' (tab.keep hl)); have F2 := Lib.hid (fun w' => refForm_any op w')
    have N1 := Lib.hid (fun w' (hl : Later w w') => name_any op w' (tab.keep hl)); have N2 := Lib.hid (fun w' => refName_any op w')
    have P1 := Lib.hid (fun w' => priv_any op w'); have P2 := Lib.hid (fun w' => refPriv_any op w')
    have A1 := Lib.hid (fun w' => access_any op w'); have A2 := Lib.hid (fun w' => refAccess_any op w')
    have I1 := Lib.hid (fun w' (hl : Later w w') => find_any s w' (tab.keep hl)); have I2 := Lib.hid (fun w' => refFind_any s w')
    obtain ⟨f, hf⟩ : ∃ f, f = Im.form op := ⟨_, rfl⟩
    obtain ⟨n, hn⟩ : ∃ n, n = Im.name op := ⟨_, rfl⟩
    obtain ⟨p, hp⟩ : ∃ p, p = decide (41 ≤ op ∧ op ≤ 48) := ⟨_, rfl⟩
    obtain ⟨x, hx⟩ : ∃ x, x = accA op := ⟨_, rfl⟩
    obtain ⟨y, hy⟩ : ∃ y, y = accS op := ⟨_, rfl⟩
    obtain ⟨i, hi⟩ : ∃ i, i = findI s := ⟨_, rfl⟩
    rw [← hf] at F1 F2
    rw [← hn] at N1 N2
    rw [← hp] at P1 P2
    rw [← hx, ← hy] at A1 A2
    rw [← hi] at I1 I2
    have hpp : (p == p) = true := beq_self_eq_true p
    clear tab hf hn hp hx hy hi
    go_enter Tryd.func5, Tryd.ntmps5
    go_wp2_with (first
      | (go_at_call 23; refine (A1.out _).mono ?_; rintro e w1 ⟨rfl, rfl⟩)
      | (go_at_call 24; refine (A2.out _).mono ?_; rintro e w2 ⟨rfl, l2⟩)
      | (go_at_call 13; refine (SA.out _ (l2.alloc l2.size _)).mono ?_; rintro e w3 ⟨rfl, h3⟩; have l3 := Later.trans_ (l2.alloc l2.size _) h3; have b3 : Blk w3 w2.heap.size 52 [.int .i64 x, .int .i64 y] := (Blk.new _ _ _ _ rfl).keep h3)
      | (go_at_call 25; refine (F1.out _ l3).mono ?_; rintro e w4 ⟨rfl, h4⟩; have l4 := Later.trans_ l3 h4; have b4 := b3.keep h4)
      | (go_at_call 26; refine (F2.out _).mono ?_; rintro e w5 ⟨rfl, rfl⟩)
      | (go_at_call 27; refine (N1.out _ l4).mono ?_; rintro e w6 ⟨rfl, h6⟩; have l6 := Later.trans_ l4 h6; have b6 := b4.keep h6)
      | (go_at_call 28; refine (N2.out _).mono ?_; rintro e w7 ⟨rfl, h7⟩; have l7 := Later.trans_ l6 h7; have b7 := b6.keep h7; have c0 := b7.cell (j := 0) rfl; have c1 := b7.cell (j := 1) rfl)
      | (go_at_call 29; refine (P1.out _).mono ?_; rintro e w8 ⟨rfl, rfl⟩)
      | (go_at_call 30; refine (P2.out _).mono ?_; rintro e w8 ⟨rfl, rfl⟩)
      | (go_at_call 31; refine (I1.out _ l7).mono ?_; rintro e w8 ⟨rfl, h8⟩; have l8 := Later.trans_ l7 h8)
      | (go_at_call 32; refine (I2.out _).mono ?_; rintro e w9 ⟨rfl, h9⟩; have l9 := Later.trans_ l8 h9))
    go_ret
    exact ⟨rfl, l9⟩
end Go.Proofs.YtbnlpkjjdijfmabDoor
