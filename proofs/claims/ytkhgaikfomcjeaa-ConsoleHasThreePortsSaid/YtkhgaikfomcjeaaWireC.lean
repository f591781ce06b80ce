/-
  THE WALKS OF wire.GetInt and the reference's GetInt.
-/
import Derived.Test.YtkhgaikfomcjeaaWireB
import Derived.Lib.VarintBits
namespace Go.Proofs.Ytkhgaikfomcjeaa
open Go.RowKit

/-- An integer, a length and an error, as they are handed back. -/
def ans (r : Int × Nat × Int) : Value := .tuple #[.int .i64 r.1, .int .i64 r.2.1, .int .i64 r.2.2]
theorem ret_ans {a b c : Int} {r : Int × Nat × Int} (h1 : a = r.1) (h2 : b = r.2.1) (h3 : c = r.2.2) : Ending.returned (.tuple #[.int .i64 a, .int .i64 b, .int .i64 c]) = .returned (ans r) := by
  rw [h1, h2, h3]; rfl
def Ahead (b : Wm.Bs) (k : Nat) : Prop := ∀ i, i < k → 128 ≤ b.getD i 0
theorem Ahead.zero (b : Wm.Bs) : Ahead b 0 := fun i hi => by omega
theorem Ahead.next {b : Wm.Bs} {k : Nat} (h : Ahead b k) (hx : 128 ≤ b.getD k 0) : Ahead b (k + 1) := fun i hi => by
  rcases Nat.lt_or_ge i k with h1 | h1
  · exact h i h1
  · rw [show i = k by omega]; exact hx

theorem bs_at {b : Wm.Bs} (hb : Wm.isBs b) (k : Nat) : 0 ≤ b.getD k 0 ∧ b.getD k 0 < 256 := by
  rcases Nat.lt_or_ge k b.length with h | h
  · rw [List.getD_eq_getElem?_getD, List.getElem?_eq_getElem h]; exact hb _ (List.getElem_mem h)
  · rw [List.getD_eq_getElem?_getD, List.getElem?_eq_none h]; exact ⟨by decide, by decide⟩
theorem Sl.byte {w : World} {A : Option Addr} {n : Nat} {b : Wm.Bs} (h : Sl w 1 A n (U b)) {k : Nat} (hk : k < n) : ∃ ad, A = some ad ∧ ad.block < w.heap.size ∧ w.cell? (ad.add k) = some (.int .u8 (b.getD k 0)) := by
  obtain ⟨ad, u, e, hb, hu, hc⟩ := h.at1 hk
  have hl : k < b.length := by have := h.1; rw [U_length] at this; omega
  rw [U_get b k hl] at hu
  cases hu
  exact ⟨ad, e, hb, hc⟩

theorem or_step (b : Wm.Bs) (k : Nat) (x : Int) (hx : b.getD k 0 = x) (h0 : 0 ≤ x) (h1 : x < 256) (hk : k < b.length) (h9 : k < 9 ∨ k = 9 ∧ x ≤ 1) :
    bits .or .u64 (Wm.low k b) (IntKind.u64.wrap (x % 128 * 2 ^ (7 * k))) = ((Wm.low (k + 1) b : Nat) : Int) := by
  obtain ⟨X, hX⟩ : ∃ X : Nat, x % 128 = (X : Int) := ⟨(x % 128).toNat, by omega⟩
  have hXlt : X < 128 := by omega
  have hl := Wm.low_lt k b
  have ep : (2 : Nat) ^ (7 * k) = 128 ^ k := by rw [Nat.pow_mul]
  have hle : 128 ^ k * X < 2 ^ 64 := by
    rcases h9 with h | ⟨rfl, h⟩
    · have h2 : 128 ^ k ≤ 128 ^ 8 := Nat.pow_le_pow_right (by decide) (by omega)
      have h3 := Nat.mul_le_mul h2 (show X ≤ 127 by omega)
      exact Nat.lt_of_le_of_lt h3 (by decide)
    · have h3 := Nat.mul_le_mul_left (128 ^ 9) (show X ≤ 1 by omega)
      exact Nat.lt_of_le_of_lt h3 (by decide)
  have hk2 : 128 ^ k < 2 ^ 64 := by
    have h2 : 128 ^ k ≤ 128 ^ 9 := Nat.pow_le_pow_right (by decide) (by rcases h9 with h | ⟨h, _⟩ <;> omega)
    exact Nat.lt_of_le_of_lt h2 (by decide)
  have e1 : (x % 128 * 2 ^ (7 * k) : Int) = ((128 ^ k * X : Nat) : Int) := by
    rw [hX, ← ep, Int.natCast_mul, Int.natCast_pow, Int.mul_comm]; rfl
  have e2 : IntKind.u64.wrap ((128 ^ k * X : Nat) : Int) = ((128 ^ k * X : Nat) : Int) := by
    rw [IntKind.wrap_u64]
    generalize 128 ^ k * X = M at hle
    omega
  rw [e1, e2, bits_or_u64_nat _ _ (Nat.lt_trans hl hk2) hle, Wm.low_snoc k b hk, hx, hX, Int.toNat_natCast, ← ep, Nat.or_comm, ← Nat.two_pow_add_eq_or_of_lt (by rw [ep]; exact hl), Nat.add_comm]

theorem dec_big {b : Wm.Bs} (h : Ahead b 9) (hl : 9 < b.length) (hx : 1 < b.getD 9 0) : Wm.decI b = (0, 0, 11) := by
  unfold Wm.decI
  by_cases h10 : b.getD 9 0 < 128
  · have e : Wm.lead 10 b = 9 := Wm.lead_is 10 b 9 h (by omega) (by omega) (.inr (.inr h10))
    rw [e, if_neg (by omega), if_neg (by omega), if_pos (.inl ⟨rfl, hx⟩)]
  · have e : Wm.lead 10 b = 10 := Wm.lead_is 10 b 10 (h.next (by omega)) (by omega) (by omega) (.inl rfl)
    rw [e, if_pos rfl]
theorem dec_zero {b : Wm.Bs} {k : Nat} (h : Ahead b k) (h0 : 0 < k) (hk : k ≤ 9) (hl : k < b.length) (hx : b.getD k 0 = 0) : Wm.decI b = (0, 0, 11) := by
  have e : Wm.lead 10 b = k := Wm.lead_is 10 b k h (by omega) (by omega) (.inr (.inr (by omega)))
  unfold Wm.decI
  rw [e, if_neg (by omega), if_neg (by omega), if_pos (.inr ⟨h0, hx⟩)]
theorem dec_good {b : Wm.Bs} {k : Nat} (h : Ahead b k) (hk : k ≤ 9) (hl : k < b.length) (hx : b.getD k 0 < 128) (h1 : ¬ (k = 9 ∧ 1 < b.getD 9 0)) (h2 : ¬ (0 < k ∧ b.getD k 0 = 0)) : Wm.decI b = (Wm.zag (Wm.low (k + 1) b), k + 1, 0) := by
  have e : Wm.lead 10 b = k := Wm.lead_is 10 b k h (by omega) (by omega) (.inr (.inr hx))
  unfold Wm.decI
  rw [e, if_neg (by omega), if_neg (by omega), if_neg (by rintro (h | h); exact h1 h; exact h2 h)]
theorem dec_end {b : Wm.Bs} (h : Ahead b b.length) (hk : b.length ≤ 9) : Wm.decI b = (0, 0, 10) := by
  have e : Wm.lead 10 b = b.length := Wm.lead_is 10 b b.length h (by omega) (by omega) (.inr (.inl rfl))
  unfold Wm.decI
  rw [e, if_neg (by omega), if_pos rfl]
theorem dec_ten {b : Wm.Bs} (h : Ahead b 10) (hk : 10 ≤ b.length) : Wm.decI b = (0, 0, 11) := by
  have e : Wm.lead 10 b = 10 := Wm.lead_is 10 b 10 h hk (by omega) (.inl rfl)
  unfold Wm.decI
  rw [e, if_pos rfl]

set_option maxRecDepth 100000 in
set_option maxHeartbeats 400000 in
theorem getInt_any (A : Option Addr) (n c : Nat) (b : Wm.Bs) (w : World) (hs : Sl w 1 A n (U b)) (hb : Wm.isBs b) (hn : n ≤ maxLen) :
    Calls Try.prog 25 #[.slice A n c] w fun e w' => e = .returned (ans (Wm.decI b)) ∧ w = w' := by
  unfold maxLen at hn
  go_enter Try.func25, Try.ntmps25
  go_wp2; go_step3; go_wp2; go_step3; go_wp2
  go_loop [5, 6, 11] (fun z u i => ∃ k : Nat, k ≤ n ∧ k ≤ 9 ∧ Ahead b k ∧ i = .int .i64 k ∧ z = .int .u64 (Wm.low k b) ∧ u = .int .i64 0) (fun _ _ i => n - (intOf i).toNat)
  case atStart => exact ⟨0, Nat.zero_le _, by omega, Ahead.zero b, rfl, rfl, rfl⟩
  case round =>
    obtain ⟨k, hk, hk9, hah, rfl, rfl, rfl⟩ := hrel
    have hln : n ≤ b.length := Nat.le_of_eq hs.blen.symm
    have hln2 : b.length ≤ n := Nat.le_of_eq hs.blen
    by_cases hlt : k < n
    · obtain ⟨ad, rfl, hbl, hc⟩ := hs.byte hlt
      obtain ⟨x, hx, h0, h1⟩ : ∃ x, b.getD k 0 = x ∧ 0 ≤ x ∧ x < 256 := ⟨_, rfl, bs_at hb k⟩
      rw [hx] at hc
      have HX := Lib.hid hx; clear hx
      go_wp2_with fail
      · have hq : Wm.decI b = (0, 0, 11) := dec_big (by rwa [show k = 9 by omega] at hah) (by omega) (by rw [show k = 9 by omega] at HX; rw [HX.out]; assumption)
        go_ret3
        exact ⟨by rw [hq]; rfl, rfl⟩
      · have hx0 : x = 0 := by simpa using (show (x == 0) = true by assumption)
        have hq : Wm.decI b = (0, 0, 11) := dec_zero hah (by omega) (by omega) (by omega) (by rw [HX.out]; exact hx0)
        go_ret3
        exact ⟨by rw [hq]; rfl, rfl⟩
      · have hx0 : ¬ x = 0 := by simpa using (show (x == 0) = false by assumption)
        have hq : Wm.decI b = (Wm.zag (Wm.low (k + 1) b), k + 1, 0) := dec_good hah (by omega) (by omega) (by rw [HX.out]; assumption) (by rintro ⟨rfl, h⟩; rw [HX.out] at h; omega) (by rintro ⟨_, h⟩; rw [HX.out] at h; exact hx0 h)
        have hcap := Wm.low_cap hb (show k < b.length by omega) (by rcases Nat.lt_or_ge k 9 with h | h; exact .inl h; exact .inr ⟨by omega, by rw [show k = 9 by omega] at HX; rw [HX.out]; omega⟩)
        have HQ := Lib.hid hq; clear hq
        rw [or_step b k x HX.out h0 h1 (by omega) (by omega)]
        refine (unfold_any _ _ hcap).mono ?_
        rintro e w' ⟨rfl, rfl⟩
        go_wp2
        rw [Exit.noGoto_ret]
        go_ret3
        exact ⟨ret_ans (by rw [HQ.out]) (by rw [HQ.out]; show _ = ((k + 1 : Nat) : Int); omega) (by rw [HQ.out]), rfl⟩
      · have hx0 : x = 0 := by simpa using (show (x == 0) = true by assumption)
        have hq : Wm.decI b = (0, 0, 11) := dec_zero hah (by omega) (by omega) (by omega) (by rw [HX.out]; exact hx0)
        go_ret3
        exact ⟨by rw [hq]; rfl, rfl⟩
      · have hx0 : ¬ x = 0 := by simpa using (show (x == 0) = false by assumption)
        have hq : Wm.decI b = (Wm.zag (Wm.low (k + 1) b), k + 1, 0) := dec_good hah (by omega) (by omega) (by rw [HX.out]; assumption) (by rintro ⟨rfl, h⟩; rw [HX.out] at h; omega) (by rintro ⟨_, h⟩; rw [HX.out] at h; exact hx0 h)
        have hcap := Wm.low_cap hb (show k < b.length by omega) (by rcases Nat.lt_or_ge k 9 with h | h; exact .inl h; exact .inr ⟨by omega, by rw [show k = 9 by omega] at HX; rw [HX.out]; omega⟩)
        have HQ := Lib.hid hq; clear hq
        rw [or_step b k x HX.out h0 h1 (by omega) (by omega)]
        refine (unfold_any _ _ hcap).mono ?_
        rintro e w' ⟨rfl, rfl⟩
        go_wp2
        rw [Exit.noGoto_ret]
        go_ret3
        exact ⟨ret_ans (by rw [HQ.out]) (by rw [HQ.out]; show _ = ((k + 1 : Nat) : Int); omega) (by rw [HQ.out]), rfl⟩
      · have ho := or_step b k x HX.out h0 h1 (by omega) (by omega)
        have hnx := hah.next (by rw [HX.out]; assumption)
        go_round
        case rel => exact ⟨k + 1, by omega, by omega, hnx, by go_num, by rw [ho], rfl⟩
        case measure => simp [intOf]; omega
      · have hq : Wm.decI b = (Wm.zag (Wm.low (k + 1) b), k + 1, 0) := dec_good hah (by omega) (by omega) (by rw [HX.out]; assumption) (by rintro ⟨rfl, h⟩; rw [HX.out] at h; omega) (by omega)
        have hcap := Wm.low_cap hb (show k < b.length by omega) (by rcases Nat.lt_or_ge k 9 with h | h; exact .inl h; exact .inr ⟨by omega, by rw [show k = 9 by omega] at HX; rw [HX.out]; omega⟩)
        have HQ := Lib.hid hq; clear hq
        rw [or_step b k x HX.out h0 h1 (by omega) (by omega)]
        refine (unfold_any _ _ hcap).mono ?_
        rintro e w' ⟨rfl, rfl⟩
        go_wp2
        rw [Exit.noGoto_ret]
        go_ret3
        exact ⟨ret_ans (by rw [HQ.out]) (by rw [HQ.out]; show _ = ((k + 1 : Nat) : Int); omega) (by rw [HQ.out]), rfl⟩
      · have ho := or_step b k x HX.out h0 h1 (by omega) (by omega)
        have hnx := hah.next (by rw [HX.out]; assumption)
        go_round
        case rel => exact ⟨k + 1, by omega, by omega, hnx, by go_num, by rw [ho], rfl⟩
        case measure => simp [intOf]; omega
    · obtain rfl : k = n := by omega
      have hq : Wm.decI b = (0, 0, 10) := by
        have e : k = b.length := by omega
        subst e
        exact dec_end hah hk9
      have HQ := Lib.hid hq; clear hq
      go_wp2
      go_ret3
      exact ⟨by rw [HQ.out]; rfl, rfl⟩

theorem zag_even {z : Nat} (h : z % 2 = 0) : ((z : Int) / 2) = Wm.zag z := by unfold Wm.zag; rw [if_neg (by omega)]; omega
theorem zag_odd {z : Nat} (h : z % 2 = 1) : (-1 - (z : Int) / 2) = Wm.zag z := by unfold Wm.zag; rw [if_pos h]; omega

theorem low_le_drop (b : Wm.Bs) (m : Nat) (j : Nat) : ∀ i, i + j ≤ b.length → Wm.low m (b.drop (i + j)) ≤ Wm.low (m + j) (b.drop i) := by
  induction j generalizing m with
  | zero => intro i _; exact Nat.le_refl _
  | succ j ih =>
    intro i h
    have h1 := Wm.low_drop m b (i + j) (by omega)
    have h2 := ih (m + 1) i (by omega)
    rw [show m + (j + 1) = m + 1 + j by omega]
    rw [show i + (j + 1) = i + j + 1 by omega]
    omega

set_option maxRecDepth 100000 in
set_option maxHeartbeats 400000 in
theorem refGetInt_any (A : Option Addr) (n c : Nat) (b : Wm.Bs) (w : World) (hs : Sl w 1 A n (U b)) (hb : Wm.isBs b) (hn : n ≤ maxLen) :
    Calls Try.prog 27 #[.slice A n c] w fun e w' => e = .returned (ans (Wm.decI b)) ∧ w = w' := by
  unfold maxLen at hn
  have hln : n ≤ b.length := Nat.le_of_eq hs.blen.symm
  have hln2 : b.length ≤ n := Nat.le_of_eq hs.blen
  go_enter Try.func27, Try.ntmps27
  go_wp2
  go_loop [5] (fun i => ∃ k : Nat, k ≤ n ∧ k ≤ 10 ∧ Ahead b k ∧ i = .int .i64 k) (fun i => n - (intOf i).toNat)
  case atStart => exact ⟨0, Nat.zero_le _, by omega, Ahead.zero b, rfl⟩
  case round =>
    obtain ⟨k, hk, hk9, hah, rfl⟩ := hrel
    by_cases hlt : k < n
    · by_cases h10 : k < 10
      · obtain ⟨ad, rfl, hbl, hc⟩ := hs.byte hlt
        obtain ⟨x, hx, h0, h1⟩ : ∃ x, b.getD k 0 = x ∧ 0 ≤ x ∧ x < 256 := ⟨_, rfl, bs_at hb k⟩
        rw [hx] at hc
        have HX := Lib.hid hx; clear hx
        by_cases hbig : 128 ≤ x
        · have hnx := hah.next (by rw [HX.out]; exact hbig)
          go_wp2
          go_round
          case rel => exact ⟨k + 1, by omega, by omega, hnx, by go_num⟩
          case measure => simp [intOf]; omega
        · have hk10 : ((k : Int) == 10) = false := by rw [beq_eq_false_iff_ne]; omega
          have hkn : ((k : Int) == (n : Int)) = false := by rw [beq_eq_false_iff_ne]; omega
          have h9t : ((k : Int) == 9) = true ∨ ((k : Int) == 9) = false := by cases ((k : Int) == 9) <;> simp
          have hpk : (0 < k) ∨ ¬ (0 < k) := by omega
          by_cases hbad : (k = 9 ∧ 1 < x) ∨ (0 < k ∧ x = 0)
          · have hq : Wm.decI b = (0, 0, 11) := by
              rcases hbad with ⟨rfl, h⟩ | ⟨h, h'⟩
              · exact dec_big hah (by omega) (by rw [HX.out]; exact h)
              · exact dec_zero hah h (by omega) (by omega) (by rw [HX.out]; exact h')
            have HQ := Lib.hid hq; clear hq
            have H9 := Lib.hid hbad; clear hbad hpk
            rcases h9t with h9t | h9t
            · have hk0 : 0 < k := by have := beq_iff_eq.1 h9t; omega
              by_cases hx1 : 1 < x
              · go_wp2
                go_ret3
                exact ⟨by rw [HQ.out]; rfl, rfl⟩
              · have hx0 : (x == 0) = true := by rcases H9.out with ⟨_, h⟩ | ⟨_, h⟩; exact absurd h hx1; rw [h]; rfl
                go_wp2
                go_ret3
                exact ⟨by rw [HQ.out]; rfl, rfl⟩
            · have hk9' : ¬ k = 9 := by have := beq_eq_false_iff_ne.1 h9t; omega
              have hk0 : 0 < k := by rcases H9.out with ⟨h, _⟩ | ⟨h, _⟩ <;> omega
              have hx0 : (x == 0) = true := by rcases H9.out with ⟨h, _⟩ | ⟨_, h⟩; exact absurd h hk9'; rw [h]; rfl
              clear hk9'
              go_wp2
              go_ret3
              exact ⟨by rw [HQ.out]; rfl, rfl⟩
          · have hq : Wm.decI b = (Wm.zag (Wm.low (k + 1) b), k + 1, 0) := dec_good hah (by omega) (by omega) (by rw [HX.out]; omega) (by rintro ⟨rfl, h⟩; rw [HX.out] at h; exact hbad (.inl ⟨rfl, h⟩)) (by rintro ⟨h, h'⟩; rw [HX.out] at h'; exact hbad (.inr ⟨h, h'⟩))
            have hcap := Wm.low_cap hb (show k < b.length by omega) (by rcases Nat.lt_or_ge k 9 with h | h; exact .inl h; exact .inr ⟨by omega, by rw [show k = 9 by omega] at HX hbad; rw [HX.out]; omega⟩)
            have HQ := Lib.hid hq; clear hq
            have hx0 : (0 < k) → (x == 0) = false := fun h => by rw [beq_eq_false_iff_ne]; intro h'; exact hbad (.inr ⟨h, h'⟩)
            have hx1 : k = 9 → ¬ 1 < x := fun h h' => hbad (.inl ⟨h, h'⟩)
            clear hbad
            have hways : (((k : Int) == 9) = true ∧ 0 < k ∧ ¬ 1 < x ∧ (x == 0) = false) ∨ (((k : Int) == 9) = false ∧ 0 < k ∧ (x == 0) = false) ∨ (((k : Int) == 9) = false ∧ ¬ 0 < k) := by
              rcases h9t with h | h
              · have h' := beq_iff_eq.1 h
                exact .inl ⟨h, by omega, hx1 (by omega), hx0 (by omega)⟩
              · rcases hpk with h' | h'
                · exact .inr (.inl ⟨h, h', hx0 h'⟩)
                · exact .inr (.inr ⟨h, h'⟩)
            clear hx0 hx1 h9t hpk
            rcases hways with ⟨t1, t2, t3, t4⟩ | ⟨t1, t2, t3⟩ | ⟨t1, t2⟩
            all_goals
              go_wp2
              go_loop [6, 7] (fun z i => ∃ t : Int, -1 ≤ t ∧ t ≤ k ∧ i = .int .i64 t ∧ z = .int .u64 (Wm.low ((k : Int) - t).toNat (b.drop (t + 1).toNat))) (fun _ i => (intOf i + 1).toNat)
              case atStart => exact ⟨k, by omega, by omega, rfl, by rw [show ((k : Int) - k).toNat = 0 by omega]; rfl⟩
              case round =>
                obtain ⟨t, ht0, htk, rfl, rfl⟩ := hrel
                by_cases htn : 0 ≤ t
                · obtain ⟨i, rfl⟩ := Int.eq_ofNat_of_zero_le htn
                  obtain ⟨ad', hade, _, hci⟩ := hs.byte (show i < n by omega)
                  cases hade
                  have e1 : ((k : Int) - (i : Int)).toNat = k - i := by omega
                  have e2 : ((i : Int) + 1).toNat = i + 1 := by omega
                  rw [e1, e2]
                  clear e1 e2
                  obtain ⟨y, hy, y0, y1⟩ : ∃ y, b.getD i 0 = y ∧ 0 ≤ y ∧ y < 256 := ⟨_, rfl, bs_at hb i⟩
                  rw [hy] at hci
                  have hld := Wm.low_drop (k - i) b i (by omega)
                  have hle := low_le_drop b (k - i + 1) i 0 (by omega)
                  rw [Nat.zero_add, List.drop_zero, show k - i + 1 + i = k + 1 by omega] at hle
                  rw [hy] at hld
                  obtain ⟨Z, hZ⟩ : ∃ Z, Wm.low (k - i) (b.drop (i + 1)) = Z := ⟨_, rfl⟩
                  rw [hZ] at hld ⊢
                  have hzb : ((Z : Int) * 128 + y % 128) < 18446744073709551616 := by omega
                  have HZ : Hid (((Z : Int) * 128 + y % 128) = ((Wm.low (k - i + 1) (b.drop i) : Nat) : Int)) := by rw [hld]; show _ = _; omega
                  clear hZ hld hle hy
                  go_wp2
                  go_round
                  case rel => exact ⟨(i : Int) - 1, by omega, by omega, rfl, by rw [HZ.out, show ((k : Int) - ((i : Int) - 1)).toNat = k - i + 1 by omega, show ((i : Int) - 1 + 1).toNat = i by omega]⟩
                  case measure => simp [intOf]
                · obtain rfl : t = -1 := by omega
                  have e1 : ((k : Int) - (-1)).toNat = k + 1 := by omega
                  have e2 : ((-1 : Int) + 1).toNat = 0 := by decide
                  rw [e1, e2, List.drop_zero]
                  clear e1 e2
                  obtain ⟨Z, hZ⟩ : ∃ Z, Wm.low (k + 1) b = Z := ⟨_, rfl⟩
                  rw [hZ] at hcap HQ ⊢
                  clear hZ
                  rcases Nat.mod_two_eq_zero_or_one Z with hm | hm
                  · have hzb : ((Z : Int) % 2 == 1) = false := by rw [beq_eq_false_iff_ne]; omega
                    have HM := Lib.hid hm; clear hm
                    go_wp2
                    go_ret3
                    exact ⟨ret_ans (by rw [HQ.out]; exact zag_even HM.out) (by rw [HQ.out]; show _ = ((k + 1 : Nat) : Int); omega) (by rw [HQ.out]), rfl⟩
                  · have hzb : ((Z : Int) % 2 == 1) = true := by rw [beq_iff_eq]; omega
                    have HM := Lib.hid hm; clear hm
                    go_wp2
                    go_ret3
                    exact ⟨ret_ans (by rw [HQ.out]; exact zag_odd HM.out) (by rw [HQ.out]; show _ = ((k + 1 : Nat) : Int); omega) (by rw [HQ.out]), rfl⟩
      · have hq : Wm.decI b = (0, 0, 11) := dec_ten (by rwa [show k = 10 by omega] at hah) (by omega)
        have HQ := Lib.hid hq; clear hq
        have hk10 : ((k : Int) == 10) = true := by rw [beq_iff_eq]; omega
        go_wp2
        go_ret3
        exact ⟨by rw [HQ.out]; rfl, rfl⟩
    · have hkn : ((k : Int) == (n : Int)) = true := by rw [beq_iff_eq]; omega
      by_cases h10 : k = 10
      · have hq : Wm.decI b = (0, 0, 11) := dec_ten (by rwa [h10] at hah) (by omega)
        have HQ := Lib.hid hq; clear hq
        have hk10 : ((k : Int) == 10) = true := by rw [beq_iff_eq]; omega
        clear h10
        go_wp2
        go_ret3
        exact ⟨by rw [HQ.out]; rfl, rfl⟩
      · have hq : Wm.decI b = (0, 0, 10) := by
          obtain rfl : k = b.length := by omega
          exact dec_end hah (by omega)
        have HQ := Lib.hid hq; clear hq
        have hk10 : ((k : Int) == 10) = false := by rw [beq_eq_false_iff_ne]; omega
        clear h10
        go_wp2
        go_ret3
        exact ⟨by rw [HQ.out]; rfl, rfl⟩

end Go.Proofs.Ytkhgaikfomcjeaa
