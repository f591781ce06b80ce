/-
  THE WALKS OF an entry's methods, and of the small functions beside them.
-/
import Derived.Test.YtempcbdlaoblhabMemM
import Derived.Test.YtempcbdlaoblhabTabBits
namespace Go.Proofs.Ytempcbdlaoblhab
open Go.RowKit Go.ChangeShapes Go.WideShapes Go.ChangeAt

namespace Tm
def isSt (acc : Int) : Bool := decide (acc = 2 ∨ acc = 3)
def cause (acc : Int) : Int := if isSt acc then 6 else if acc = 4 then 4 else 5
def after (e acc : Int) : Int := if isSt acc then wi (wi e 16) 32 else wi e 16
def allows (e acc : Int) (user : Bool) : Bool := !(isSt acc && !has e 2) && !(decide (acc = 4) && !has e 8) && (!user || has e 4)
def pgOf (e va : Int) : Int := if has e 64 then adr e + va % 4096 / 128 * 128 else adr e
def pageB (n : Nat) (a : Int) : Bool := decide (a % 128 = 0) && decide (a < (n : Int) * 128)
def rootB (n : Nat) (a : Int) : Bool := !(a == 0) && pageB n a
def wd (b : Wm.Bs) (a : Int) : Int := Mm.ld b a 4
def rF (n : Nat) (e : Int) : Bool := if has e 64 then decide (adr e % 4096 = 0) else decide (e / 2 % 32 = 0) && pageB n (adr e)
def fA (root va : Int) : Int := root + va / 4096 * 4
def sA (t va : Int) : Int := t + va % 4096 / 128 * 4
theorem adr_e {e : Int} (h : isE e) : isE (adr e) := by unfold adr; exact ⟨by have := h.1; omega, by have := h.2; omega⟩
end Tm
theorem isE_of {e : Int} (h0 : 0 ≤ e) (h1 : e < 4294967296) : Tm.isE e := ⟨h0, h1⟩
theorem has_any (e : Int) (k : Nat) (M : Int) (hM : M = ((2 ^ k : Nat) : Int)) (hk : k < 32) (w : World) (h : Tm.isE e) :
    Calls Try.prog 74 #[.int .u32 e, .int .u32 M] w fun r w' => r = .returned (.bool (Tm.has e M)) ∧ w = w' := by
  have hb := has_bits h k M hM hk
  have HB := Lib.hid hb
  clear hb hM h
  go_enter Try.func74, Try.ntmps74
  go_wp2
  go_ret
  exact ⟨by rw [← HB.out]; rfl, rfl⟩
theorem has62_any (e : Int) (w : World) (h : Tm.isE e) :
    Calls Try.prog 74 #[.int .u32 e, .int .u32 62] w fun r w' => r = .returned (.bool (!decide (e / 2 % 32 = 0))) ∧ w = w' := by
  have HB := Lib.hid (has62 h)
  clear h
  go_enter Try.func74, Try.ntmps74
  go_wp2
  go_ret
  exact ⟨by rw [← HB.out]; rfl, rfl⟩
theorem isValid_any (e : Int) (w : World) (h : Tm.isE e) : Calls Try.prog 42 #[.int .u32 e] w fun r w' => r = .returned (.bool (Tm.has e 1)) ∧ w = w' := by
  have H := Lib.hid fun w' => has_any e 0 1 rfl (by omega) w' h
  clear h
  go_enter Try.func42, Try.ntmps42
  go_wp2_with (go_at_call 74; refine (H.out _).mono ?_; rintro r w' ⟨rfl, rfl⟩)
  go_ret
  exact ⟨rfl, rfl⟩
theorem isLarge_any (e : Int) (w : World) (h : Tm.isE e) : Calls Try.prog 50 #[.int .u32 e] w fun r w' => r = .returned (.bool (Tm.has e 64)) ∧ w = w' := by
  have H := Lib.hid fun w' => has_any e 6 64 rfl (by omega) w' h
  clear h
  go_enter Try.func50, Try.ntmps50
  go_wp2_with (go_at_call 74; refine (H.out _).mono ?_; rintro r w' ⟨rfl, rfl⟩)
  go_ret
  exact ⟨rfl, rfl⟩
theorem isRightSecond_any (e : Int) (w : World) (h : Tm.isE e) : Calls Try.prog 85 #[.int .u32 e] w fun r w' => r = .returned (.bool (!Tm.has e 64)) ∧ w = w' := by
  have H := Lib.hid fun w' => isLarge_any e w' h
  clear h
  go_enter Try.func85, Try.ntmps85
  go_wp2_with (go_at_call 50; refine (H.out _).mono ?_; rintro r w' ⟨rfl, rfl⟩)
  go_ret
  exact ⟨rfl, rfl⟩
theorem address_any (e : Int) (w : World) (h : Tm.isE e) : Calls Try.prog 43 #[.int .u32 e] w fun r w' => r = .returned (.int .u32 (Tm.adr e)) ∧ w = w' := by
  have H := Lib.hid (andn127 h)
  clear h
  go_enter Try.func43, Try.ntmps43
  go_wp2
  go_ret
  exact ⟨by rw [← H.out]; rfl, rfl⟩
theorem bits_any (e : Int) (w : World) (h : Tm.isE e) : Calls Try.prog 91 #[.int .u32 e] w fun r w' => r = .returned (.int .i64 (e % 128)) ∧ w = w' := by
  have H := and127 h
  have h0 := h.1
  have h1 := h.2
  clear h
  go_enter Try.func91, Try.ntmps91
  go_wp2
  go_ret
  exact ⟨ret_int rfl, rfl⟩
theorem isStore_any (a : Int) (w : World) : Calls Try.prog 67 #[.int .i64 a] w fun r w' => r = .returned (.bool (Tm.isSt a)) ∧ w = w' := by
  unfold Tm.isSt
  by_cases h2 : a = 2
  · subst h2
    go_enter Try.func67, Try.ntmps67
    go_wp2
    go_ret
    exact ⟨rfl, rfl⟩
  · by_cases h3 : a = 3
    · subst h3
      go_enter Try.func67, Try.ntmps67
      go_wp2
      go_ret
      exact ⟨rfl, rfl⟩
    · have e2 : (a == 2) = false := by simpa using h2
      have e3 : (a == 3) = false := by simpa using h3
      have e4 : decide (a = 2 ∨ a = 3) = false := by simpa using ⟨h2, h3⟩
      rw [e4]
      go_enter Try.func67, Try.ntmps67
      go_wp2
      go_ret
      exact ⟨rfl, rfl⟩
theorem causeOf_any (a : Int) (w : World) : Calls Try.prog 29 #[.int .i64 a] w fun r w' => r = .returned (.int .i64 (Tm.cause a)) ∧ w = w' := by
  have H := Lib.hid fun w' => isStore_any a w'
  unfold Tm.cause
  cases hs : Tm.isSt a with
  | true =>
    rw [hs] at H
    rw [if_pos rfl]
    clear hs
    go_enter Try.func29, Try.ntmps29
    go_wp2_with (go_at_call 67; refine (H.out _).mono ?_; rintro r w' ⟨rfl, rfl⟩)
    go_ret
    exact ⟨rfl, rfl⟩
  | false =>
    rw [hs] at H
    rw [if_neg (by decide)]
    clear hs
    by_cases h4 : a = 4
    · rw [if_pos h4]
      have e4 : (a == 4) = true := by simpa using h4
      clear h4
      go_enter Try.func29, Try.ntmps29
      go_wp2_with (go_at_call 67; refine (H.out _).mono ?_; rintro r w' ⟨rfl, rfl⟩)
      go_ret
      exact ⟨rfl, rfl⟩
    · rw [if_neg h4]
      have e4 : (a == 4) = false := by simpa using h4
      clear h4
      go_enter Try.func29, Try.ntmps29
      go_wp2_with (go_at_call 67; refine (H.out _).mono ?_; rintro r w' ⟨rfl, rfl⟩)
      go_ret
      exact ⟨rfl, rfl⟩
theorem after_any (e a : Int) (w : World) (h : Tm.isE e) : Calls Try.prog 73 #[.int .u32 e, .int .i64 a] w fun r w' => r = .returned (.int .u32 (Tm.after e a)) ∧ w = w' := by
  have H := Lib.hid fun w' => isStore_any a w'
  have h1 := or_16 h
  have h2 := or_32 (wi_e h (b := 16) (Or.inl rfl))
  rw [← h1] at h2
  have H1 := Lib.hid h1
  have H2 := Lib.hid h2
  unfold Tm.after
  cases hs : Tm.isSt a with
  | true =>
    rw [hs] at H
    rw [if_pos rfl, ← h1, ← h2]
    clear hs h1 h2 h
    go_enter Try.func73, Try.ntmps73
    go_wp2_with (go_at_call 67; refine (H.out _).mono ?_; rintro r w' ⟨rfl, rfl⟩)
    go_ret
    exact ⟨rfl, rfl⟩
  | false =>
    rw [hs] at H
    rw [if_neg (by decide), ← h1]
    clear hs h1 h2 h
    go_enter Try.func73, Try.ntmps73
    go_wp2_with (go_at_call 67; refine (H.out _).mono ?_; rintro r w' ⟨rfl, rfl⟩)
    go_ret
    exact ⟨rfl, rfl⟩
theorem allows_any (e a : Int) (u : Bool) (w : World) (h : Tm.isE e) : Calls Try.prog 72 #[.int .u32 e, .int .i64 a, .bool u] w fun r w' => r = .returned (.bool (Tm.allows e a u)) ∧ w = w' := by
  have H := Lib.hid fun w' => isStore_any a w'
  have HW := Lib.hid fun w' => has_any e 1 2 rfl (by omega) w' h
  have HX := Lib.hid fun w' => has_any e 3 8 rfl (by omega) w' h
  have HU := Lib.hid fun w' => has_any e 2 4 rfl (by omega) w' h
  unfold Tm.allows
  obtain ⟨s, hs⟩ : ∃ s, s = Tm.isSt a := ⟨_, rfl⟩
  obtain ⟨p, hp⟩ : ∃ p, p = Tm.has e 2 := ⟨_, rfl⟩
  obtain ⟨q, hq⟩ : ∃ q, q = Tm.has e 8 := ⟨_, rfl⟩
  obtain ⟨t, ht⟩ : ∃ t, t = Tm.has e 4 := ⟨_, rfl⟩
  obtain ⟨f, hf⟩ : ∃ f, f = decide (a = 4) := ⟨_, rfl⟩
  have e4 : (a == 4) = f := by rw [hf]; rfl
  rw [← hs] at H ⊢
  rw [← hp] at HW ⊢
  rw [← hq] at HX ⊢
  rw [← ht] at HU ⊢
  rw [← hf]
  clear hs hp hq ht hf h
  cases s <;> cases p <;> cases f <;> cases q <;> cases u <;> cases t <;>
  · go_enter Try.func72, Try.ntmps72
    go_wp2_with (first
      | (go_at_call 67; refine (H.out _).mono ?_; rintro r w' ⟨rfl, rfl⟩)
      | (go_at_call 74; (with_reducible refine (HU.out _).mono ?_); rintro r w' ⟨rfl, rfl⟩)
      | (go_at_call 74; (with_reducible refine (HX.out _).mono ?_); rintro r w' ⟨rfl, rfl⟩)
      | (go_at_call 74; (with_reducible refine (HW.out _).mono ?_); rintro r w' ⟨rfl, rfl⟩))
    go_ret
    exact ⟨rfl, rfl⟩
theorem inFirst_any (r v : Int) (w : World) (hr : 0 ≤ r ∧ r < 1073741824) (hv : 0 ≤ v ∧ v < 4294967296) : Calls Try.prog 40 #[.int .u32 r, .int .u32 v] w fun e w' => e = .returned (.int .u32 (Tm.fA r v)) ∧ w = w' := by
  obtain ⟨hr0, hr1⟩ := hr
  obtain ⟨hv0, hv1⟩ := hv
  go_enter Try.func40, Try.ntmps40
  go_wp2
  go_ret
  exact ⟨by unfold Tm.fA; first | rfl | (congr 2; omega), rfl⟩
theorem inSecond_any (r v : Int) (w : World) (hr : 0 ≤ r ∧ r < 4294967168) (hv : 0 ≤ v ∧ v < 4294967296) : Calls Try.prog 46 #[.int .u32 r, .int .u32 v] w fun e w' => e = .returned (.int .u32 (Tm.sA r v)) ∧ w = w' := by
  obtain ⟨hr0, hr1⟩ := hr
  obtain ⟨hv0, hv1⟩ := hv
  go_enter Try.func46, Try.ntmps46
  go_wp2
  go_ret
  exact ⟨by unfold Tm.sA; first | rfl | (congr 2; omega), rfl⟩
theorem isPage_any (A : Option Addr) (n c : Nat) (a : Int) (w : World) (hn : n ≤ 64) (ha : 0 ≤ a ∧ a < 4294967296) : Calls Try.prog 69 #[.agg #[.slice A n c], .int .u32 a] w fun e w' => e = .returned (.bool (Tm.pageB n a)) ∧ Later w w' := by
  have H := Lib.hid fun w' => size_any A n c w' hn
  obtain ⟨ha0, ha1⟩ := ha
  unfold Tm.pageB
  by_cases h1 : a % 128 = 0
  · rw [decide_eq_true h1, Bool.true_and]
    have e1 : (a % 128 == 0) = true := by simpa using h1
    have e2 : decide (a < (n : Int) * 128) = decide (a < ((n * 128 : Nat) : Int)) := by rw [Int.natCast_mul]; rfl
    rw [e2]
    clear h1 e2
    go_enter Try.func69, Try.ntmps69
    go_wp2_with (go_at_call 24; refine (H.out _).mono ?_; rintro r w1 ⟨rfl, l1⟩)
    go_ret
    exact ⟨rfl, Later.trans_ (later1 _ _) l1⟩
  · rw [decide_eq_false h1, Bool.false_and]
    have e1 : (a % 128 == 0) = false := by simpa using h1
    clear h1
    go_enter Try.func69, Try.ntmps69
    go_wp2_with (go_at_call 24; refine (H.out _).mono ?_; rintro r w1 ⟨rfl, l1⟩)
    go_ret
    exact ⟨rfl, later1 _ _⟩
theorem isRoot_any (A : Option Addr) (n c : Nat) (a : Int) (w : World) (hn : n ≤ 64) (ha : 0 ≤ a ∧ a < 4294967296) : Calls Try.prog 48 #[.agg #[.slice A n c], .int .u32 a] w fun e w' => e = .returned (.bool (Tm.rootB n a)) ∧ Later w w' := by
  have H := Lib.hid fun w' => isPage_any A n c a w' hn ha
  obtain ⟨ha0, ha1⟩ := ha
  unfold Tm.rootB
  obtain ⟨q, hq⟩ : ∃ q, q = Tm.pageB n a := ⟨_, rfl⟩
  rw [← hq] at H ⊢
  clear hq
  cases h1 : (a == 0)
  · have h2 : (a != 0) = true := by rw [bne, h1]; rfl
    clear h1
    go_enter Try.func48, Try.ntmps48
    go_wp2_with (go_at_call 69; refine (H.out _).mono ?_; rintro r w1 ⟨rfl, l1⟩)
    go_ret
    exact ⟨rfl, Later.trans_ (later1 _ _) l1⟩
  · have h2 : (a != 0) = false := by rw [bne, h1]; rfl
    clear h1
    go_enter Try.func48, Try.ntmps48
    go_wp2_with (go_at_call 69; refine (H.out _).mono ?_; rintro r w1 ⟨rfl, l1⟩)
    go_ret
    exact ⟨rfl, later1 _ _⟩
theorem tload_any (A : Option Addr) (n c : Nat) (a : Int) (b : Wm.Bs) (w : World) (hs : Sl w 128 A n (U b)) (hb : Wm.isBs b) (hn1 : 1 ≤ n) (hn : n ≤ 64) (ha : 0 ≤ a ∧ a < 4294967296) : Calls Try.prog 41 #[.agg #[.slice A n c], .int .u32 a] w fun e w' => e = .returned (.int .u32 (Tm.wd b a)) ∧ Later w w' := by
  have H := Lib.hid fun w' (hl : Later w w') => load_any A n c a 4 b w' (hs.keep hl) hb hn1 hn (by omega)
  obtain ⟨ha0, ha1⟩ := ha
  clear hs hb
  go_enter Try.func41, Try.ntmps41
  go_wp2_with (go_at_call 25; refine (H.out _ (later1 _ _)).mono ?_; rintro r w1 ⟨rfl, l1⟩)
  go_ret
  exact ⟨rfl, Later.trans_ (later1 _ _) l1⟩
theorem page_any (e v : Int) (w : World) (h : Tm.isE e) (hv : 0 ≤ v ∧ v < 4294967296) (hr : Tm.has e 64 = true → Tm.adr e % 4096 = 0) : Calls Try.prog 71 #[.int .u32 e, .int .u32 v] w fun r w' => r = .returned (.int .u32 (Tm.pgOf e v)) ∧ w = w' := by
  have HL := Lib.hid fun w' => isLarge_any e w' h
  have HA := Lib.hid fun w' => address_any e w' h
  obtain ⟨hv0, hv1⟩ := hv
  have hx := andn127 (e := v % 4096) ⟨by omega, by omega⟩
  obtain ⟨h0, h1⟩ := Tm.adr_e h
  unfold Tm.pgOf
  obtain ⟨x, hX⟩ : ∃ x, x = Tm.adr e := ⟨_, rfl⟩
  rw [← hX] at HA h0 h1 hr ⊢
  clear hX h
  cases hl : Tm.has e 64 with
  | true =>
    rw [hl] at HL hr
    have hr := hr rfl
    rw [if_pos rfl]
    obtain ⟨y, hy⟩ : ∃ y, y = v % 4096 / 128 * 128 := ⟨_, rfl⟩
    have hxy : bits .andNot .u32 (v % 4096) 127 = y := by rw [hx, hy]; rfl
    have y0 : 0 ≤ y := by omega
    have y1 : x + y < 4294967296 := by omega
    rw [← hy]
    clear hl hx hy
    go_enter Try.func71, Try.ntmps71
    go_wp2_with (first
      | (go_at_call 50; refine (HL.out _).mono ?_; rintro r w' ⟨rfl, rfl⟩)
      | (go_at_call 43; refine (HA.out _).mono ?_; rintro r w' ⟨rfl, rfl⟩))
    go_ret
    exact ⟨rfl, rfl⟩
  | false =>
    rw [hl] at HL
    rw [if_neg (by decide)]
    clear hl hr
    go_enter Try.func71, Try.ntmps71
    go_wp2_with (first
      | (go_at_call 50; refine (HL.out _).mono ?_; rintro r w' ⟨rfl, rfl⟩)
      | (go_at_call 43; refine (HA.out _).mono ?_; rintro r w' ⟨rfl, rfl⟩))
    go_ret
    exact ⟨rfl, rfl⟩
end Go.Proofs.Ytempcbdlaoblhab
