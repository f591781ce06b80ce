/-
  The lengths of integers' encodings: the statement WireLengths.
-/
import Derived.Test.YtaknnccmohgmpaaWireM
import Derived.Deep.DeepCutAuto
import Derived.Deep.RegionHeld3
namespace Go.Proofs.Ytaknnccmohgmpaa
open Go.RowKit Go.ChangeShapes Go.WideShapes Go.ChangeAt

theorem encN_half (i : Nat) : (Wm.encN (2 * i + 1)).length = (Wm.encN (2 * i)).length := by
  by_cases h : 2 * i < 128
  · rw [Wm.encN_small h, Wm.encN_small (by omega)]; rfl
  · rw [Wm.encN_big (z := 2 * i) (by omega), Wm.encN_big (z := 2 * i + 1) (by omega), show (2 * i + 1) / 128 = 2 * i / 128 by omega]; rfl
theorem encI_half (m : Int) : (Wm.encI m).length = (Wm.encN (2 * (Wm.zig m / 2))).length := by
  unfold Wm.encI
  rcases Nat.mod_two_eq_zero_or_one (Wm.zig m) with h | h
  · rw [show 2 * (Wm.zig m / 2) = Wm.zig m by omega]
  · have := encN_half (Wm.zig m / 2)
    rw [show 2 * (Wm.zig m / 2) + 1 = Wm.zig m by omega] at this
    exact this
theorem zig_half {m : Int} : (Wm.zig m / 2 : Nat) = if 0 ≤ m then m else -1 - m := by
  unfold Wm.zig
  split <;> omega
theorem zig_flip (m : Int) : Wm.zig (-1 - m) / 2 = Wm.zig m / 2 := by
  unfold Wm.zig
  split <;> split <;> omega

/-- Neither of two encodings begins the other. -/
theorem prefix_free {m n : Int} (h1 : -9223372036854775808 ≤ m) (h2 : m ≤ 9223372036854775807) (h3 : -9223372036854775808 ≤ n) (h4 : n ≤ 9223372036854775807) (k : Nat) (hk : k = min (Wm.encI m).length (Wm.encI n).length)
    (h : (Wm.encI m).take k = (Wm.encI n).take k) : m = n := by
  have aux : ∀ x y : Int, -9223372036854775808 ≤ x → x ≤ 9223372036854775807 → -9223372036854775808 ≤ y → y ≤ 9223372036854775807 → (Wm.encI x).length ≤ (Wm.encI y).length → Wm.encI x = (Wm.encI y).take (Wm.encI x).length → x = y := by
    intro x y a1 a2 a3 a4 hl he
    have e1 := Wm.decI_encI a1 a2 ((Wm.encI y).drop (Wm.encI x).length)
    have e2 := Wm.decI_encI a3 a4 []
    rw [List.append_nil] at e2
    have e3 : Wm.encI x ++ (Wm.encI y).drop (Wm.encI x).length = Wm.encI y := by
      rw [congrArg (· ++ (Wm.encI y).drop (Wm.encI x).length) he]
      exact List.take_append_drop _ _
    rw [e3, e2] at e1
    exact (congrArg Prod.fst e1).symm
  rcases Nat.le_total (Wm.encI m).length (Wm.encI n).length with hl | hl
  · rw [Nat.min_eq_left hl] at hk
    subst hk
    rw [List.take_of_length_le (Nat.le_refl _)] at h
    exact aux m n h1 h2 h3 h4 hl h
  · rw [Nat.min_eq_right hl] at hk
    subst hk
    rw [List.take_of_length_le (l := Wm.encI n) (Nat.le_refl _)] at h
    exact (aux n m h3 h4 h1 h2 hl h.symm).symm

theorem isBs_take {b : Wm.Bs} (h : Wm.isBs b) (p : Nat) : Wm.isBs (b.take p) := fun x hx => h x (List.mem_of_mem_take hx)

theorem two_strs {w : World} {A1 A2 : Option Addr} {r : Nat} {b1 b2 : Wm.Bs} (h1 : Sl w 1 A1 r (U b1)) (h2 : Sl w 1 A2 r (U b2)) (c1 c2 : Nat) :
    (convert 28 9 (.slice A1 r c1)).run Try.prog w = .ok (.string (strOfNums b1)) w ∧ (convert 28 9 (.slice A2 r c2)).run Try.prog w = .ok (.string (strOfNums b2)) w :=
  ⟨run_str (P := Try.prog) 28 9 5 Try.underlying28 Try.underlying5 Try.underlying9 h1 c1, run_str (P := Try.prog) 28 9 5 Try.underlying28 Try.underlying5 Try.underlying9 h2 c2⟩
theorem later_drew {w w' : World} (h : Later w.drew w') : Later w w' := Later.trans_ (below_drewN (Below.refl _ w) 1) h

set_option maxRecDepth 100000 in
set_option maxHeartbeats 2000000 in
theorem lengths_any (m n : Int) (w : World) (h1 : -9223372036854775808 ≤ m) (h2 : m ≤ 9223372036854775807) (h3 : -9223372036854775808 ≤ n) (h4 : n ≤ 9223372036854775807) :
    Calls Try.prog 5 #[.int .i64 m, .int .i64 n] w fun e w' => e = .returned (.bool true) ∧ Later w w' := by
  have HS := Lib.hid (sanity_any)
  obtain ⟨ka, hka⟩ : ∃ k, k = (Wm.encI m).length := ⟨_, rfl⟩
  obtain ⟨kb, hkb⟩ : ∃ k, k = (Wm.encI n).length := ⟨_, rfl⟩
  obtain ⟨i, hi⟩ : ∃ i, i = Wm.zig m / 2 := ⟨_, rfl⟩
  obtain ⟨j, hj⟩ : ∃ j, j = Wm.zig n / 2 := ⟨_, rfl⟩
  have hi2 : (i : Int) = if 0 ≤ m then m else -1 - m := by rw [hi]; exact zig_half
  have hj2 : (j : Int) = if 0 ≤ n then n else -1 - n := by rw [hj]; exact zig_half
  have la : ka = (Wm.encN (2 * i)).length := by rw [hka, hi, encI_half]
  have lb : kb = (Wm.encN (2 * j)).length := by rw [hkb, hj, encI_half]
  have hab : i ≤ j → ka ≤ kb := fun h => by rw [la, lb]; exact Wm.encN_mono _ _ (by omega)
  have hba : j ≤ i → kb ≤ ka := fun h => by rw [la, lb]; exact Wm.encN_mono _ _ (by omega)
  have ha1 : ka = 1 ↔ i < 64 := by rw [la, Wm.encN_one]; omega
  have ha10 : ka ≤ 10 := by rw [hka]; exact Wm.encI_len h1 h2
  have hb10 : kb ≤ 10 := by rw [hkb]; exact Wm.encI_len h3 h4
  have ha0 : 1 ≤ ka := by rw [hka]; exact Wm.encI_pos m
  have hb0 : 1 ≤ kb := by rw [hkb]; exact Wm.encI_pos n
  have hlm : ka = (Wm.encI (-1 - m)).length := by rw [la, encI_half (-1 - m), zig_flip, hi]
  have E1 := Lib.hid (made_len (wireInt_any m w h1 h2) hka)
  have E2 := Lib.hid fun (w' : World) => made_len (wireInt_any n w' h3 h4) hkb
  have E3 := Lib.hid fun (w' : World) => made_len (wireInt_any (-1 - m) w' (by omega) (by omega)) hlm
  have HP := Lib.hid (prefix_free h1 h2 h3 h4 (min ka kb) (by rw [hka, hkb]))
  have hi2' := Lib.hid hi2
  have hj2' := Lib.hid hj2
  have hab' := Lib.hid hab
  have hba' := Lib.hid hba
  have ha1' := Lib.hid ha1
  clear hi2 hj2 hab hba ha1 hi hj la lb hka hkb hlm
  go_enter Try.func5, Try.ntmps5
  go_upto_region 2 with (first
    | (go_at_call 14; first
      | (refine (E2.out w1).mono ?_; rintro e w2 ⟨A2, c2, rfl, g5, g6, g7, g8⟩)
      | (refine (E1.out).mono ?_; rintro e w1 ⟨A1, c1, rfl, g1, g2, g3, g4⟩)))
  go_cut [7, 8] (fun s7 s8 wx => s7 = .int .i64 i ∧ s8 = .int .i64 j ∧ w2 = wx)
  case first =>
    by_cases hm : 0 ≤ m
    · by_cases hn : 0 ≤ n
      · go_wp2
        go_meet
        exact ⟨by rw [hi2'.out, if_pos hm], by rw [hj2'.out, if_pos hn], rfl⟩
      · go_wp2
        go_meet
        exact ⟨by rw [hi2'.out, if_pos hm], by rw [hj2'.out, if_neg (by omega)], rfl⟩
    · by_cases hn : 0 ≤ n
      · go_wp2
        go_meet
        exact ⟨by rw [hi2'.out, if_neg (by omega)], by rw [hj2'.out, if_pos hn], rfl⟩
      · go_wp2
        go_meet
        exact ⟨by rw [hi2'.out, if_neg (by omega)], by rw [hj2'.out, if_neg (by omega)], rfl⟩
  case rest =>
    obtain ⟨rfl, rfl, rfl⟩ := hcut
    go_upto_region 3 with fail
    go_cut [66] (fun s66 wx => s66 = .bool false ∧ w2 = wx)
    case first =>
      have hab := hab'.out
      have hba := hba'.out
      have ha1 := ha1'.out
      rcases Nat.lt_trichotomy i j with h | h | h
      · have q1 := hab (by omega)
        by_cases hc : i < 64
        · obtain rfl := ha1.2 hc
          clear hab hba ha1
          go_wp2
          go_meet
          exact ⟨by first | rfl | (congr 1; simp; omega) | (congr 1; simp), rfl⟩
        · have q2 : 2 ≤ ka := by omega
          have q3 : ((ka : Int) == 1) = decide ((i : Int) < 64) := by rw [Bool.eq_iff_iff]; simp; omega
          have q4 := Lib.hid q3
          clear hab hba ha1 q3
          go_wp2
          all_goals first
            | (go_meet; exact ⟨by first | rfl | (congr 1; simp; omega) | (congr 1; simp), rfl⟩)
            | (rename_i hbad; exact absurd q4.out hbad)
      · subst h
        obtain rfl : ka = kb := by omega
        by_cases hc : i < 64
        · obtain rfl := ha1.2 hc
          clear hab hba ha1
          go_wp2
          go_meet
          exact ⟨by first | rfl | (congr 1; simp; omega) | (congr 1; simp), rfl⟩
        · have q2 : 2 ≤ ka := by omega
          have q3 : ((ka : Int) == 1) = decide ((i : Int) < 64) := by rw [Bool.eq_iff_iff]; simp; omega
          have q4 := Lib.hid q3
          clear hab hba ha1 q3
          go_wp2
          all_goals first
            | (go_meet; exact ⟨by first | rfl | (congr 1; simp; omega) | (congr 1; simp), rfl⟩)
            | (rename_i hbad; exact absurd q4.out hbad)
      · have q1 := hba (by omega)
        by_cases hc : i < 64
        · obtain rfl := ha1.2 hc
          clear hab hba ha1
          go_wp2
          go_meet
          exact ⟨by first | rfl | (congr 1; simp; omega) | (congr 1; simp), rfl⟩
        · have q2 : 2 ≤ ka := by omega
          have q3 : ((ka : Int) == 1) = decide ((i : Int) < 64) := by rw [Bool.eq_iff_iff]; simp; omega
          have q4 := Lib.hid q3
          clear hab hba ha1 q3
          go_wp2
          all_goals first
            | (go_meet; exact ⟨by first | rfl | (congr 1; simp; omega) | (congr 1; simp), rfl⟩)
            | (rename_i hbad; exact absurd q4.out hbad)
    case rest =>
      obtain ⟨rfl, rfl⟩ := hcut
      go_upto_region 5 with fail
      obtain ⟨r, hr⟩ : ∃ r, r = min ka kb := ⟨_, rfl⟩
      have hra : r ≤ ka := by omega
      have hrb : r ≤ kb := by omega
      have hr0 : 1 ≤ r := by omega
      go_cut [9] (fun s9 wx => s9 = .int .i64 r ∧ w2 = wx)
      case first =>
        rcases Nat.lt_or_ge kb ka with h | h
        · obtain rfl : r = kb := by omega
          clear hr
          go_wp2
          go_meet
          exact ⟨rfl, rfl⟩
        · obtain rfl : r = ka := by omega
          clear hr
          go_wp2
          go_meet
          exact ⟨rfl, rfl⟩
      case rest =>
        obtain ⟨rfl, rfl⟩ := hcut
        rw [← hr] at HP
        have HE := Lib.hid (str_eqb (isBs_take (Wm.encI_bytes m) r) (isBs_take (Wm.encI_bytes n) r))
        have k2 := Later.trans_ g4 g8
        have f1 := g3.frontB hra
        have f2 := g7.frontB hrb
        clear hr hab' hba' ha1' hi2' hj2' E1 E2
        have f1' := f1.keep g8
        have hrc1 : (r : Int) ≤ c1 := by omega
        have hrc2 : (r : Int) ≤ c2 := by omega
        have hr00 : (0 : Int) ≤ r := by omega
        have hw : IntKind.i64.wrap (-1 - m) = -1 - m := IntWalk.i64_in _ ⟨by omega, by omega⟩
        clear f1 g3 g7
        go_wp2_with fail
        go_region_held3 (fun w' => (convert 28 9 (.slice A1 r c1)).run Try.prog w' = .ok (.string (strOfNums ((Wm.encI m).take r))) w' ∧ (convert 28 9 (.slice A2 r c2)).run Try.prog w' = .ok (.string (strOfNums ((Wm.encI n).take r))) w') (first | exact two_strs (f1'.keep g11) (f2.keep g11) c1 c2 | exact two_strs (f1'.keep (later_drew g9)) (f2.keep (later_drew g9)) c1 c2 | exact two_strs f1'.drew f2.drew c1 c2 | exact two_strs f1' f2 c1 c2) (first
          | (go_at_call 12; refine (HS.out _).mono ?_; rintro e w3 ⟨rfl, g9⟩)
          | (go_at_call 14; refine (E3.out _).mono ?_; rintro e w4 ⟨A3, c3, rfl, _, _, _, g10⟩; have g11 := Later.trans_ (later_drew g9) g10))
        all_goals clear hw
        all_goals go_wp2_with fail
        go_ret
        refine ⟨ret_bool ?_, Later.trans_ k2 g11⟩
        rw [HE.out]
        by_cases h : m = n
        · subst h; simp
        · have h' : (Wm.encI m).take r ≠ (Wm.encI n).take r := fun hh => h (HP.out hh)
          simp [h, h']

set_option maxRecDepth 100000 in
theorem lengths_lifted (os : Os) (started : os.Started) (H : Type) (enc : TypeId × Value → H) :
    ReturnsInHanded {} Try.checked os 5 .any (Rows.wireLengthsSpec.pre6 enc Try.prog Try.f5 Rows.wireLengthsRow.domain false) (Rows.wireLengthsSpec.post enc Try.prog Try.f5 false true false false) := by
  refine returnsInHanded_of_change (C := Try.checked) ownK started (by kernel_rfl) Try.func5
    (ChangeSpec.witness6 (enc := enc) (C := Try.checked) false ⟨#[], #[.int .i64 0, .int .i64 0], []⟩ 8 (by kernel_rfl) (by kernel_rfl) (by kernel_rfl) (by kernel_rfl)) ?_
  intro W base args ds gs before hval0 hW _ _
  have hval : ∀ (j : Nat) t v, Try.f5.params[j]? = some t → args[j]? = some v → Value.okWide Try.prog W .any base t v := hval0
  have hW' := hW
  obtain ⟨p, q, hA0, hV, rfl, _, _⟩ := hW
  have hA : DataW.TrodAll enc Try.prog W 0 (fun _ => true) true Try.f5.params.toList args.toList ds p := hA0
  rw [Try.params5] at hA hval
  obtain ⟨v0, v1, d0, d1, p0, p1, rfl, rfl, rfl, h0, h1⟩ := trodAll_two hA
  obtain ⟨rfl, rfl⟩ := trodVars_none hV
  obtain ⟨x, rfl, x1, x2⟩ := int_arg Try.underlying3 (hval 0 3 v0 rfl rfl) h0
  obtain ⟨y, rfl, y1, y2⟩ := int_arg Try.underlying3 (hval 1 3 v1 rfl rfl) h1
  clear hA0 hval0
  refine (lengths_any x y W x1 x2 y1 y2).mono fun e W' ⟨he, hw⟩ => ?_
  subst he
  exact ⟨_, rfl, law_post laidK rfl (by kernel_rfl) (by kernel_rfl) Try.underlying4 (by kernel_rfl) hW' rfl hw⟩

theorem lengths_holds : Rows.WireLengthsSaid :=
  OpenClaim.holds_of_wide 5 Try.f5 rfl rfl rfl rfl rfl rfl rfl ⟨rfl, rfl, rfl, rfl, rfl⟩ rfl rfl rfl rfl rfl (by kernel_rfl) Try.func5 (by kernel_rfl)
    (of_decide_eq_true (by kernel_rfl)) (by unfold Func.isWrapper; first | (rw [if_pos (by decide +kernel)]; kernel_rfl) | (rw [if_neg (by decide +kernel)]; exact ⟨rfl, rfl⟩))
    (fun os started H enc _ => lengths_lifted os started H enc)
#print axioms lengths_holds

end Go.Proofs.Ytaknnccmohgmpaa
