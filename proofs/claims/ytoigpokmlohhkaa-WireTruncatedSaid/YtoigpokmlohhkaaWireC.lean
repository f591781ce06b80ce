/-
  THE WALKS OF wire.GetInt and the reference's GetInt.
-/
import Derived.Test.YtoigpokmlohhkaaWireB
import Derived.Lib.VarintBits
namespace Go.Proofs.Ytoigpokmlohhkaa
open Go.RowKit

/-- An integer, a length and an error, as they are handed back. -/
def ans (r : Int × Nat × Int) : Value := .tuple #[.int .i64 r.1, .int .i64 r.2.1, .int .i64 r.2.2]
theorem ret_ans {a b c : Int} {r : Int × Nat × Int} (h1 : a = r.1) (h2 : b = r.2.1) (h3 : c = r.2.2) : Ending.returned (.tuple #[.int .i64 a, .int .i64 b, .int .i64 c]) = .returned (ans r) := by
  rw [h1, h2, h3]; rfl
def Ahead (b : Wm.Bs) (k : Nat) : Prop := ∀ i, i < k → 128 ≤ b.getD i 0
theorem Ahead.zero (b : Wm.Bs) : Ahead b 0 := fun i hi => by omega
theorem Ahead.next {b : Wm.Bs} {k : Nat} (h : Ahead b k) (hx : 128 ≤ b.getD k 0) : Ahead b (k + 1) := fun i hi => by
  rcases Nat.lt_or_ge i k with h1 | h1
  · exact h i h1
  · rw [show i = k by omega]; exact hx

theorem bs_at {b : Wm.Bs} (hb : Wm.isBs b) (k : Nat) : 0 ≤ b.getD k 0 ∧ b.getD k 0 < 256 := by
  rcases Nat.lt_or_ge k b.length with h | h
  · rw [List.getD_eq_getElem?_getD, List.getElem?_eq_getElem h]; exact hb _ (List.getElem_mem h)
  · rw [List.getD_eq_getElem?_getD, List.getElem?_eq_none h]; exact ⟨by decide, by decide⟩
theorem Sl.byte {w : World} {A : Option Addr} {n : Nat} {b : Wm.Bs} (h : Sl w 1 A n (U b)) {k : Nat} (hk : k < n) : ∃ ad, A = some ad ∧ ad.block < w.heap.size ∧ w.cell? (ad.add k) = some (.int .u8 (b.getD k 0)) := by
  obtain ⟨ad, u, e, hb, hu, hc⟩ := h.at1 hk
  have hl : k < b.length := by have := h.1; rw [U_length] at this; omega
  rw [U_get b k hl] at hu
  cases hu
  exact ⟨ad, e, hb, hc⟩

theorem or_step (b : Wm.Bs) (k : Nat) (x : Int) (hx : b.getD k 0 = x) (h0 : 0 ≤ x) (h1 : x < 256) (hk : k < b.length) (h9 : k < 9 ∨ k = 9 ∧ x ≤ 1) :
    bits .or .u64 (Wm.low k b) (IntKind.u64.wrap (x % 128 * 2 ^ (7 * k))) = ((Wm.low (k + 1) b : Nat) : Int) := by
  obtain ⟨X, hX⟩ : ∃ X : Nat, x % 128 = (X : Int) := ⟨(x % 128).toNat, by omega⟩
  have hXlt : X < 128 := by omega
  have hl := Wm.low_lt k b
  have ep : (2 : Nat) ^ (7 * k) = 128 ^ k := by rw [Nat.pow_mul]
  have hle : 128 ^ k * X < 2 ^ 64 := by
    rcases h9 with h | ⟨rfl, h⟩
    · have h2 : 128 ^ k ≤ 128 ^ 8 := Nat.pow_le_pow_right (by decide) (by omega)
      have h3 := Nat.mul_le_mul h2 (show X ≤ 127 by omega)
      exact Nat.lt_of_le_of_lt h3 (by decide)
    · have h3 := Nat.mul_le_mul_left (128 ^ 9) (show X ≤ 1 by omega)
      exact Nat.lt_of_le_of_lt h3 (by decide)
  have hk2 : 128 ^ k < 2 ^ 64 := by
    have h2 : 128 ^ k ≤ 128 ^ 9 := Nat.pow_le_pow_right (by decide) (by rcases h9 with h | ⟨h, _⟩ <;> omega)
    exact Nat.lt_of_le_of_lt h2 (by decide)
  have e1 : (x % 128 * 2 ^ (7 * k) : Int) = ((128 ^ k * X : Nat) : Int) := by
    rw [hX, ← ep, Int.natCast_mul, Int.natCast_pow, Int.mul_comm]; rfl
  have e2 : IntKind.u64.wrap ((128 ^ k * X : Nat) : Int) = ((128 ^ k * X : Nat) : Int) := by
    rw [IntKind.wrap_u64]
    generalize 128 ^ k * X = M at hle
    omega
  rw [e1, e2, bits_or_u64_nat _ _ (Nat.lt_trans hl hk2) hle, Wm.low_snoc k b hk, hx, hX, Int.toNat_natCast, ← ep, Nat.or_comm, ← Nat.two_pow_add_eq_or_of_lt (by rw [ep]; exact hl), Nat.add_comm]

theorem dec_big {b : Wm.Bs} (h : Ahead b 9) (hl : 9 < b.length) (hx : 1 < b.getD 9 0) : Wm.decI b = (0, 0, 11) := by
  unfold Wm.decI
  by_cases h10 : b.getD 9 0 < 128
  · have e : Wm.lead 10 b = 9 := Wm.lead_is 10 b 9 h (by omega) (by omega) (.inr (.inr h10))
    rw [e, if_neg (by omega), if_neg (by omega), if_pos (.inl ⟨rfl, hx⟩)]
  · have e : Wm.lead 10 b = 10 := Wm.lead_is 10 b 10 (h.next (by omega)) (by omega) (by omega) (.inl rfl)
    rw [e, if_pos rfl]
theorem dec_zero {b : Wm.Bs} {k : Nat} (h : Ahead b k) (h0 : 0 < k) (hk : k ≤ 9) (hl : k < b.length) (hx : b.getD k 0 = 0) : Wm.decI b = (0, 0, 11) := by
  have e : Wm.lead 10 b = k := Wm.lead_is 10 b k h (by omega) (by omega) (.inr (.inr (by omega)))
  unfold Wm.decI
  rw [e, if_neg (by omega), if_neg (by omega), if_pos (.inr ⟨h0, hx⟩)]
theorem dec_good {b : Wm.Bs} {k : Nat} (h : Ahead b k) (hk : k ≤ 9) (hl : k < b.length) (hx : b.getD k 0 < 128) (h1 : ¬ (k = 9 ∧ 1 < b.getD 9 0)) (h2 : ¬ (0 < k ∧ b.getD k 0 = 0)) : Wm.decI b = (Wm.zag (Wm.low (k + 1) b), k + 1, 0) := by
  have e : Wm.lead 10 b = k := Wm.lead_is 10 b k h (by omega) (by omega) (.inr (.inr hx))
  unfold Wm.decI
  rw [e, if_neg (by omega), if_neg (by omega), if_neg (by rintro (h | h); exact h1 h; exact h2 h)]
theorem dec_end {b : Wm.Bs} (h : Ahead b b.length) (hk : b.length ≤ 9) : Wm.decI b = (0, 0, 10) := by
  have e : Wm.lead 10 b = b.length := Wm.lead_is 10 b b.length h (by omega) (by omega) (.inr (.inl rfl))
  unfold Wm.decI
  rw [e, if_neg (by omega), if_pos rfl]
theorem dec_ten {b : Wm.Bs} (h : Ahead b 10) (hk : 10 ≤ b.length) : Wm.decI b = (0, 0, 11) := by
  have e : Wm.lead 10 b = 10 := Wm.lead_is 10 b 10 h hk (by omega) (.inl rfl)
  unfold Wm.decI
  rw [e, if_pos rfl]

set_option maxRecDepth 100000 in
set_option maxHeartbeats 400000 in
theorem getInt_any (A : Option Addr) (n c : Nat) (b : Wm.Bs) (w : World) (hs : Sl w 1 A n (U b)) (hb : Wm.isBs b) (hn : n ≤ maxLen) :
    Calls Try.prog 11 #[.slice A n c] w fun e w' => e = .returned (ans (Wm.decI b)) ∧ w = w' := by
  unfold maxLen at hn
  go_enter Try.func11, Try.ntmps11
  go_wp2; go_step3; go_wp2; go_step3; go_wp2
  go_loop [5, 6, 11] (fun z u i => ∃ k : Nat, k ≤ n ∧ k ≤ 9 ∧ Ahead b k ∧ i = .int .i64 k ∧ z = .int .u64 (Wm.low k b) ∧ u = .int .i64 0) (fun _ _ i => n - (intOf i).toNat)
  case atStart => exact ⟨0, Nat.zero_le _, by omega, Ahead.zero b, rfl, rfl, rfl⟩
  case round =>
    obtain ⟨k, hk, hk9, hah, rfl, rfl, rfl⟩ := hrel
    have hln : n ≤ b.length := Nat.le_of_eq hs.blen.symm
    have hln2 : b.length ≤ n := Nat.le_of_eq hs.blen
    by_cases hlt : k < n
    · obtain ⟨ad, rfl, hbl, hc⟩ := hs.byte hlt
      obtain ⟨x, hx, h0, h1⟩ : ∃ x, b.getD k 0 = x ∧ 0 ≤ x ∧ x < 256 := ⟨_, rfl, bs_at hb k⟩
      rw [hx] at hc
      have HX := Lib.hid hx; clear hx
      go_wp2_with fail
      · have hq : Wm.decI b = (0, 0, 11) := dec_big (by rwa [show k = 9 by omega] at hah) (by omega) (by rw [show k = 9 by omega] at HX; rw [HX.out]; assumption)
        go_ret3
        exact ⟨by rw [hq]; rfl, rfl⟩
      · have hx0 : x = 0 := by simpa using (show (x == 0) = true by assumption)
        have hq : Wm.decI b = (0, 0, 11) := dec_zero hah (by omega) (by omega) (by omega) (by rw [HX.out]; exact hx0)
        go_ret3
        exact ⟨by rw [hq]; rfl, rfl⟩
      · have hx0 : ¬ x = 0 := by simpa using (show (x == 0) = false by assumption)
        have hq : Wm.decI b = (Wm.zag (Wm.low (k + 1) b), k + 1, 0) := dec_good hah (by omega) (by omega) (by rw [HX.out]; assumption) (by rintro ⟨rfl, h⟩; rw [HX.out] at h; omega) (by rintro ⟨_, h⟩; rw [HX.out] at h; exact hx0 h)
        have hcap := Wm.low_cap hb (show k < b.length by omega) (by rcases Nat.lt_or_ge k 9 with h | h; exact .inl h; exact .inr ⟨by omega, by rw [show k = 9 by omega] at HX; rw [HX.out]; omega⟩)
        have HQ := Lib.hid hq; clear hq
        rw [or_step b k x HX.out h0 h1 (by omega) (by omega)]
        refine (unfold_any _ _ hcap).mono ?_
        rintro e w' ⟨rfl, rfl⟩
        go_wp2
        rw [Exit.noGoto_ret]
        go_ret3
        exact ⟨ret_ans (by rw [HQ.out]) (by rw [HQ.out]; show _ = ((k + 1 : Nat) : Int); omega) (by rw [HQ.out]), rfl⟩
      · have hx0 : x = 0 := by simpa using (show (x == 0) = true by assumption)
        have hq : Wm.decI b = (0, 0, 11) := dec_zero hah (by omega) (by omega) (by omega) (by rw [HX.out]; exact hx0)
        go_ret3
        exact ⟨by rw [hq]; rfl, rfl⟩
      · have hx0 : ¬ x = 0 := by simpa using (show (x == 0) = false by assumption)
        have hq : Wm.decI b = (Wm.zag (Wm.low (k + 1) b), k + 1, 0) := dec_good hah (by omega) (by omega) (by rw [HX.out]; assumption) (by rintro ⟨rfl, h⟩; rw [HX.out] at h; omega) (by rintro ⟨_, h⟩; rw [HX.out] at h; exact hx0 h)
        have hcap := Wm.low_cap hb (show k < b.length by omega) (by rcases Nat.lt_or_ge k 9 with h | h; exact .inl h; exact .inr ⟨by omega, by rw [show k = 9 by omega] at HX; rw [HX.out]; omega⟩)
        have HQ := Lib.hid hq; clear hq
        rw [or_step b k x HX.out h0 h1 (by omega) (by omega)]
        refine (unfold_any _ _ hcap).mono ?_
        rintro e w' ⟨rfl, rfl⟩
        go_wp2
        rw [Exit.noGoto_ret]
        go_ret3
        exact ⟨ret_ans (by rw [HQ.out]) (by rw [HQ.out]; show _ = ((k + 1 : Nat) : Int); omega) (by rw [HQ.out]), rfl⟩
      · have ho := or_step b k x HX.out h0 h1 (by omega) (by omega)
        have hnx := hah.next (by rw [HX.out]; assumption)
        go_round
        case rel => exact ⟨k + 1, by omega, by omega, hnx, by go_num, by rw [ho], rfl⟩
        case measure => simp [intOf]; omega
      · have hq : Wm.decI b = (Wm.zag (Wm.low (k + 1) b), k + 1, 0) := dec_good hah (by omega) (by omega) (by rw [HX.out]; assumption) (by rintro ⟨rfl, h⟩; rw [HX.out] at h; omega) (by omega)
        have hcap := Wm.low_cap hb (show k < b.length by omega) (by rcases Nat.lt_or_ge k 9 with h | h; exact .inl h; exact .inr ⟨by omega, by rw [show k = 9 by omega] at HX; rw [HX.out]; omega⟩)
        have HQ := Lib.hid hq; clear hq
        rw [or_step b k x HX.out h0 h1 (by omega) (by omega)]
        refine (unfold_any _ _ hcap).mono ?_
        rintro e w' ⟨rfl, rfl⟩
        go_wp2
        rw [Exit.noGoto_ret]
        go_ret3
        exact ⟨ret_ans (by rw [HQ.out]) (by rw [HQ.out]; show _ = ((k + 1 : Nat) : Int); omega) (by rw [HQ.out]), rfl⟩
      · have ho := or_step b k x HX.out h0 h1 (by omega) (by omega)
        have hnx := hah.next (by rw [HX.out]; assumption)
        go_round
        case rel => exact ⟨k + 1, by omega, by omega, hnx, by go_num, by rw [ho], rfl⟩
        case measure => simp [intOf]; omega
    · obtain rfl : k = n := by omega
      have hq : Wm.decI b = (0, 0, 10) := by
        have e : k = b.length := by omega
        subst e
        exact dec_end hah hk9
      have HQ := Lib.hid hq; clear hq
      go_wp2
      go_ret3
      exact ⟨by rw [HQ.out]; rfl, rfl⟩

theorem zag_even {z : Nat} (h : z % 2 = 0) : ((z : Int) / 2) = Wm.zag z := by unfold Wm.zag; rw [if_neg (by omega)]; omega
theorem zag_odd {z : Nat} (h : z % 2 = 1) : (-1 - (z : Int) / 2) = Wm.zag z := by unfold Wm.zag; rw [if_pos h]; omega

theorem low_le_drop (b : Wm.Bs) (m : Nat) (j : Nat) : ∀ i, i + j ≤ b.length → Wm.low m (b.drop (i + j)) ≤ Wm.low (m + j) (b.drop i) := by
  induction j generalizing m with
  | zero => intro i _; exact Nat.le_refl _
  | succ j ih =>
    intro i h
    have h1 := Wm.low_drop m b (i + j) (by omega)
    have h2 := ih (m + 1) i (by omega)
    rw [show m + (j + 1) = m + 1 + j by omega]
    rw [show i + (j + 1) = i + j + 1 by omega]
    omega

end Go.Proofs.Ytoigpokmlohhkaa
