/-
  THE WALKS OF an entry's methods, and of the small functions beside them.
-/
import Derived.Test.YtidhodalnikhlaaGreatDoorVe
import Derived.Test.YtidhodalnikhlaaGreatDoorVa
import Derived.Defers
import Derived.Recover
import Derived.Laws.Pointers
namespace Go.Proofs.YtidhodalnikhlaaGreatDoor
open Go.RowKit Go.ChangeShapes Go.WideShapes Go.ChangeAt

namespace Tm
set_option maxRecDepth 100000 in
def isSt (acc : Int) : Bool := decide (acc = 2 ∨ acc = 3)
set_option maxRecDepth 100000 in
def cause (acc : Int) : Int := if isSt acc then 6 else if acc = 4 then 4 else 5
set_option maxRecDepth 100000 in
def after (e acc : Int) : Int := if isSt acc then wi (wi e 16) 32 else wi e 16
set_option maxRecDepth 100000 in
def allows (e acc : Int) (user : Bool) : Bool := !(isSt acc && !has e 2) && !(decide (acc = 4) && !has e 8) && (!user || has e 4)
set_option maxRecDepth 100000 in
def pgOf (e va : Int) : Int := if has e 64 then adr e + va % 4096 / 128 * 128 else adr e
set_option maxRecDepth 100000 in
def pageB (n : Nat) (a : Int) : Bool := decide (a % 128 = 0) && decide (a < (n : Int) * 128)
set_option maxRecDepth 100000 in
def rootB (n : Nat) (a : Int) : Bool := !(a == 0) && pageB n a
set_option maxRecDepth 100000 in
def wd (b : Wm.Bs) (a : Int) : Int := Mm.ld b a 4
set_option maxRecDepth 100000 in
def rF (n : Nat) (e : Int) : Bool := if has e 64 then decide (adr e % 4096 = 0) else decide (e / 2 % 32 = 0) && pageB n (adr e)
set_option maxRecDepth 100000 in
def fA (root va : Int) : Int := root + va / 4096 * 4
set_option maxRecDepth 100000 in
def sA (t va : Int) : Int := t + va % 4096 / 128 * 4
set_option maxRecDepth 100000 in
theorem adr_e {e : Int} (h : isE e) : isE (adr e) := by unfold adr; exact ⟨by have := h.1; omega, by have := h.2; omega⟩
end Tm
set_option maxRecDepth 100000 in
theorem has_any (e : Int) (k : Nat) (M : Int) (hM : M = ((2 ^ k : Nat) : Int)) (hk : k < 32) (w : World) (h : Tm.isE e) :
    Calls Tryz.prog 195 #[.int .u32 e, .int .u32 M] w fun r w' => r = .returned (.bool (Tm.has e M)) ∧ w = w' := by
  have hb := has_bits h k M hM hk
  have HB := Lib.hid hb
  clear hb hM h
  go_enter Tryz.func195, Tryz.ntmps195
  go_wp2
  go_ret
  exact ⟨by rw [← HB.out]; rfl, rfl⟩
set_option maxRecDepth 100000 in
theorem has62_any (e : Int) (w : World) (h : Tm.isE e) :
    Calls Tryz.prog 195 #[.int .u32 e, .int .u32 62] w fun r w' => r = .returned (.bool (!decide (e / 2 % 32 = 0))) ∧ w = w' := by
  have HB := Lib.hid (has62 h)
  clear h
  go_enter Tryz.func195, Tryz.ntmps195
  go_wp2
  go_ret
  exact ⟨by rw [← HB.out]; rfl, rfl⟩
set_option maxRecDepth 100000 in
theorem isValid_any (e : Int) (w : World) (h : Tm.isE e) : Calls Tryz.prog 189 #[.int .u32 e] w fun r w' => r = .returned (.bool (Tm.has e 1)) ∧ w = w' := by
  have H := Lib.hid fun w' => has_any e 0 1 rfl (by omega) w' h
  clear h
  go_enter Tryz.func189, Tryz.ntmps189
  go_wp2_with (go_at_call 195; refine (H.out _).mono ?_; rintro r w' ⟨rfl, rfl⟩)
  go_ret
  exact ⟨rfl, rfl⟩
set_option maxRecDepth 100000 in
theorem isLarge_any (e : Int) (w : World) (h : Tm.isE e) : Calls Tryz.prog 191 #[.int .u32 e] w fun r w' => r = .returned (.bool (Tm.has e 64)) ∧ w = w' := by
  have H := Lib.hid fun w' => has_any e 6 64 rfl (by omega) w' h
  clear h
  go_enter Tryz.func191, Tryz.ntmps191
  go_wp2_with (go_at_call 195; refine (H.out _).mono ?_; rintro r w' ⟨rfl, rfl⟩)
  go_ret
  exact ⟨rfl, rfl⟩
set_option maxRecDepth 100000 in
theorem isRightSecond_any (e : Int) (w : World) (h : Tm.isE e) : Calls Tryz.prog 194 #[.int .u32 e] w fun r w' => r = .returned (.bool (!Tm.has e 64)) ∧ w = w' := by
  have H := Lib.hid fun w' => isLarge_any e w' h
  clear h
  go_enter Tryz.func194, Tryz.ntmps194
  go_wp2_with (go_at_call 191; refine (H.out _).mono ?_; rintro r w' ⟨rfl, rfl⟩)
  go_ret
  exact ⟨rfl, rfl⟩
set_option maxRecDepth 100000 in
theorem address_any (e : Int) (w : World) (h : Tm.isE e) : Calls Tryz.prog 193 #[.int .u32 e] w fun r w' => r = .returned (.int .u32 (Tm.adr e)) ∧ w = w' := by
  have H := Lib.hid (andn127 h)
  clear h
  go_enter Tryz.func193, Tryz.ntmps193
  go_wp2
  go_ret
  exact ⟨by rw [← H.out]; rfl, rfl⟩
set_option maxRecDepth 100000 in
theorem isStore_any (a : Int) (w : World) : Calls Tryz.prog 175 #[.int .i64 a] w fun r w' => r = .returned (.bool (Tm.isSt a)) ∧ w = w' := by
  unfold Tm.isSt
  by_cases h2 : a = 2
  · subst h2
    go_enter Tryz.func175, Tryz.ntmps175
    go_wp2
    go_ret
    exact ⟨rfl, rfl⟩
  · by_cases h3 : a = 3
    · subst h3
      go_enter Tryz.func175, Tryz.ntmps175
      go_wp2
      go_ret
      exact ⟨rfl, rfl⟩
    · have e2 : (a == 2) = false := by simpa using h2
      have e3 : (a == 3) = false := by simpa using h3
      have e4 : decide (a = 2 ∨ a = 3) = false := by simpa using ⟨h2, h3⟩
      rw [e4]
      go_enter Tryz.func175, Tryz.ntmps175
      go_wp2
      go_ret
      exact ⟨rfl, rfl⟩
set_option maxRecDepth 100000 in
theorem causeOf_any (a : Int) (w : World) : Calls Tryz.prog 163 #[.int .i64 a] w fun r w' => r = .returned (.int .i64 (Tm.cause a)) ∧ w = w' := by
  have H := Lib.hid fun w' => isStore_any a w'
  unfold Tm.cause
  cases hs : Tm.isSt a with
  | true =>
    rw [hs] at H
    rw [if_pos rfl]
    clear hs
    go_enter Tryz.func163, Tryz.ntmps163
    go_wp2_with (go_at_call 175; refine (H.out _).mono ?_; rintro r w' ⟨rfl, rfl⟩)
    go_ret
    exact ⟨rfl, rfl⟩
  | false =>
    rw [hs] at H
    rw [if_neg (by decide)]
    clear hs
    by_cases h4 : a = 4
    · rw [if_pos h4]
      have e4 : (a == 4) = true := by simpa using h4
      clear h4
      go_enter Tryz.func163, Tryz.ntmps163
      go_wp2_with (go_at_call 175; refine (H.out _).mono ?_; rintro r w' ⟨rfl, rfl⟩)
      go_ret
      exact ⟨rfl, rfl⟩
    · rw [if_neg h4]
      have e4 : (a == 4) = false := by simpa using h4
      clear h4
      go_enter Tryz.func163, Tryz.ntmps163
      go_wp2_with (go_at_call 175; refine (H.out _).mono ?_; rintro r w' ⟨rfl, rfl⟩)
      go_ret
      exact ⟨rfl, rfl⟩
set_option maxRecDepth 100000 in
theorem after_any (e a : Int) (w : World) (h : Tm.isE e) : Calls Tryz.prog 181 #[.int .u32 e, .int .i64 a] w fun r w' => r = .returned (.int .u32 (Tm.after e a)) ∧ w = w' := by
  have H := Lib.hid fun w' => isStore_any a w'
  have h1 := or_16 h
  have h2 := or_32 (wi_e h (b := 16) (Or.inl rfl))
  rw [← h1] at h2
  have H1 := Lib.hid h1
  have H2 := Lib.hid h2
  unfold Tm.after
  cases hs : Tm.isSt a with
  | true =>
    rw [hs] at H
    rw [if_pos rfl, ← h1, ← h2]
    clear hs h1 h2 h
    go_enter Tryz.func181, Tryz.ntmps181
    go_wp2_with (go_at_call 175; refine (H.out _).mono ?_; rintro r w' ⟨rfl, rfl⟩)
    go_ret
    exact ⟨rfl, rfl⟩
  | false =>
    rw [hs] at H
    rw [if_neg (by decide), ← h1]
    clear hs h1 h2 h
    go_enter Tryz.func181, Tryz.ntmps181
    go_wp2_with (go_at_call 175; refine (H.out _).mono ?_; rintro r w' ⟨rfl, rfl⟩)
    go_ret
    exact ⟨rfl, rfl⟩
set_option maxRecDepth 100000 in
theorem allows_any (e a : Int) (u : Bool) (w : World) (h : Tm.isE e) : Calls Tryz.prog 180 #[.int .u32 e, .int .i64 a, .bool u] w fun r w' => r = .returned (.bool (Tm.allows e a u)) ∧ w = w' := by
  have H := Lib.hid fun w' => isStore_any a w'
  have HW := Lib.hid fun w' => has_any e 1 2 rfl (by omega) w' h
  have HX := Lib.hid fun w' => has_any e 3 8 rfl (by omega) w' h
  have HU := Lib.hid fun w' => has_any e 2 4 rfl (by omega) w' h
  unfold Tm.allows
  obtain ⟨s, hs⟩ : ∃ s, s = Tm.isSt a := ⟨_, rfl⟩
  obtain ⟨p, hp⟩ : ∃ p, p = Tm.has e 2 := ⟨_, rfl⟩
  obtain ⟨q, hq⟩ : ∃ q, q = Tm.has e 8 := ⟨_, rfl⟩
  obtain ⟨t, ht⟩ : ∃ t, t = Tm.has e 4 := ⟨_, rfl⟩
  obtain ⟨f, hf⟩ : ∃ f, f = decide (a = 4) := ⟨_, rfl⟩
  have e4 : (a == 4) = f := by rw [hf]; rfl
  rw [← hs] at H ⊢
  rw [← hp] at HW ⊢
  rw [← hq] at HX ⊢
  rw [← ht] at HU ⊢
  rw [← hf]
  clear hs hp hq ht hf h
  cases s <;> cases p <;> cases f <;> cases q <;> cases u <;> cases t <;>
  · go_enter Tryz.func180, Tryz.ntmps180
    go_wp2_with (first
      | (go_at_call 175; refine (H.out _).mono ?_; rintro r w' ⟨rfl, rfl⟩)
      | (go_at_call 195; (with_reducible refine (HU.out _).mono ?_); rintro r w' ⟨rfl, rfl⟩)
      | (go_at_call 195; (with_reducible refine (HX.out _).mono ?_); rintro r w' ⟨rfl, rfl⟩)
      | (go_at_call 195; (with_reducible refine (HW.out _).mono ?_); rintro r w' ⟨rfl, rfl⟩))
    go_ret
    exact ⟨rfl, rfl⟩
set_option maxRecDepth 100000 in
theorem inFirst_any (r v : Int) (w : World) (hr : 0 ≤ r ∧ r < 1073741824) (hv : 0 ≤ v ∧ v < 4294967296) : Calls Tryz.prog 187 #[.int .u32 r, .int .u32 v] w fun e w' => e = .returned (.int .u32 (Tm.fA r v)) ∧ w = w' := by
  obtain ⟨hr0, hr1⟩ := hr
  obtain ⟨hv0, hv1⟩ := hv
  go_enter Tryz.func187, Tryz.ntmps187
  go_wp2
  go_ret
  exact ⟨by unfold Tm.fA; first | rfl | (congr 2; omega), rfl⟩
set_option maxRecDepth 100000 in
theorem inSecond_any (r v : Int) (w : World) (hr : 0 ≤ r ∧ r < 4294967168) (hv : 0 ≤ v ∧ v < 4294967296) : Calls Tryz.prog 192 #[.int .u32 r, .int .u32 v] w fun e w' => e = .returned (.int .u32 (Tm.sA r v)) ∧ w = w' := by
  obtain ⟨hr0, hr1⟩ := hr
  obtain ⟨hv0, hv1⟩ := hv
  go_enter Tryz.func192, Tryz.ntmps192
  go_wp2
  go_ret
  exact ⟨by unfold Tm.sA; first | rfl | (congr 2; omega), rfl⟩
set_option maxRecDepth 100000 in
theorem isPage_any (A : Option Addr) (n c : Nat) (a : Int) (w : World) (hn : n ≤ 64) (ha : 0 ≤ a ∧ a < 4294967296) : Calls Tryz.prog 177 #[.agg #[.slice A n c], .int .u32 a] w fun e w' => e = .returned (.bool (Tm.pageB n a)) ∧ Later w w' := by
  have H := Lib.hid fun w' => size_any A n c w' hn
  obtain ⟨ha0, ha1⟩ := ha
  unfold Tm.pageB
  by_cases h1 : a % 128 = 0
  · rw [decide_eq_true h1, Bool.true_and]
    have e1 : (a % 128 == 0) = true := by simpa using h1
    have e2 : decide (a < (n : Int) * 128) = decide (a < ((n * 128 : Nat) : Int)) := by rw [Int.natCast_mul]; rfl
    rw [e2]
    clear h1 e2
    go_enter Tryz.func177, Tryz.ntmps177
    go_wp2_with (go_at_call 137; refine (H.out _).mono ?_; rintro r w1 ⟨rfl, l1⟩)
    go_ret
    exact ⟨rfl, Later.trans_ (later1 _ _) l1⟩
  · rw [decide_eq_false h1, Bool.false_and]
    have e1 : (a % 128 == 0) = false := by simpa using h1
    clear h1
    go_enter Tryz.func177, Tryz.ntmps177
    go_wp2_with (go_at_call 137; refine (H.out _).mono ?_; rintro r w1 ⟨rfl, l1⟩)
    go_ret
    exact ⟨rfl, later1 _ _⟩
set_option maxRecDepth 100000 in
theorem tload_any (A : Option Addr) (n c : Nat) (a : Int) (b : Wm.Bs) (w : World) (hs : Sl w 128 A n (U b)) (hb : Wm.isBs b) (hn1 : 1 ≤ n) (hn : n ≤ 64) (ha : 0 ≤ a ∧ a < 4294967296) : Calls Tryz.prog 200 #[.agg #[.slice A n c], .int .u32 a] w fun e w' => e = .returned (.int .u32 (Tm.wd b a)) ∧ Later w w' := by
  have H := Lib.hid fun w' (hl : Later w w') => load_any A n c a 4 b w' (hs.keep hl) hb hn1 hn (by omega)
  obtain ⟨ha0, ha1⟩ := ha
  clear hs hb
  go_enter Tryz.func200, Tryz.ntmps200
  go_wp2_with (go_at_call 23; refine (H.out _ (later1 _ _)).mono ?_; rintro r w1 ⟨rfl, l1⟩)
  go_ret
  exact ⟨rfl, Later.trans_ (later1 _ _) l1⟩
set_option maxRecDepth 100000 in
theorem page_any (e v : Int) (w : World) (h : Tm.isE e) (hv : 0 ≤ v ∧ v < 4294967296) (hr : Tm.has e 64 = true → Tm.adr e % 4096 = 0) : Calls Tryz.prog 179 #[.int .u32 e, .int .u32 v] w fun r w' => r = .returned (.int .u32 (Tm.pgOf e v)) ∧ w = w' := by
  have HL := Lib.hid fun w' => isLarge_any e w' h
  have HA := Lib.hid fun w' => address_any e w' h
  obtain ⟨hv0, hv1⟩ := hv
  have hx := andn127 (e := v % 4096) ⟨by omega, by omega⟩
  obtain ⟨h0, h1⟩ := Tm.adr_e h
  unfold Tm.pgOf
  obtain ⟨x, hX⟩ : ∃ x, x = Tm.adr e := ⟨_, rfl⟩
  rw [← hX] at HA h0 h1 hr ⊢
  clear hX h
  cases hl : Tm.has e 64 with
  | true =>
    rw [hl] at HL hr
    have hr := hr rfl
    rw [if_pos rfl]
    obtain ⟨y, hy⟩ : ∃ y, y = v % 4096 / 128 * 128 := ⟨_, rfl⟩
    have hxy : bits .andNot .u32 (v % 4096) 127 = y := by rw [hx, hy]; rfl
    have y0 : 0 ≤ y := by omega
    have y1 : x + y < 4294967296 := by omega
    rw [← hy]
    clear hl hx hy
    go_enter Tryz.func179, Tryz.ntmps179
    go_wp2_with (first
      | (go_at_call 191; refine (HL.out _).mono ?_; rintro r w' ⟨rfl, rfl⟩)
      | (go_at_call 193; refine (HA.out _).mono ?_; rintro r w' ⟨rfl, rfl⟩))
    go_ret
    exact ⟨rfl, rfl⟩
  | false =>
    rw [hl] at HL
    rw [if_neg (by decide)]
    clear hl hr
    go_enter Tryz.func179, Tryz.ntmps179
    go_wp2_with (first
      | (go_at_call 191; refine (HL.out _).mono ?_; rintro r w' ⟨rfl, rfl⟩)
      | (go_at_call 193; refine (HA.out _).mono ?_; rintro r w' ⟨rfl, rfl⟩))
    go_ret
    exact ⟨rfl, rfl⟩
end Go.Proofs.YtidhodalnikhlaaGreatDoor

/-
  THE WALKS OF isRightFirst, store, mapping, areMappable, with, zeros.
-/
namespace Go.Proofs.YtidhodalnikhlaaGreatDoor
open Go.RowKit Go.ChangeShapes Go.WideShapes Go.ChangeAt

set_option maxRecDepth 100000 in
theorem reM {f : FuncId} {args : Array Value} {w : World} {v : Value} (h : ∀ w', Later w w' → Calls Tryz.prog f args w' fun e w'' => e = .returned v ∧ Later w' w'') (d : Nat) (os : Array Obj) :
    Calls Tryz.prog f args (Sort.grow (redrawn w d) os) fun e w'' => e = .returned v ∧ ∃ p : Regrown, w'' = Sort.grow (redrawn w p.d) p.os := Calls.regrown_of (h _ (below_regrown w d os))
set_option maxRecDepth 100000 in
theorem laterEq {f : FuncId} {args : Array Value} {w : World} {v : Value} (h : Calls Tryz.prog f args w fun e w' => e = .returned v ∧ w = w') : Calls Tryz.prog f args w fun e w' => e = .returned v ∧ Later w w' :=
  h.mono fun _ _ ⟨h1, h2⟩ => ⟨h1, by rw [← h2]; exact Below.refl _ _⟩
set_option maxRecDepth 100000 in
theorem isRightFirst_any (e : Int) (A : Option Addr) (n c : Nat) (w : World) (h : Tm.isE e) (hn : n ≤ 64) : Calls Tryz.prog 190 #[.int .u32 e, .agg #[.slice A n c]] w fun r w' => r = .returned (.bool (Tm.rF n e)) ∧ Later w w' := by
  have HL := Lib.hid fun w' => isLarge_any e w' h
  have HA := Lib.hid fun w' => address_any e w' h
  have ha := Tm.adr_e h
  have h62 := fun w' => has62_any e w' h
  have HP := fun w' => isPage_any A n c (Tm.adr e) w' hn ha
  obtain ⟨w0, hw0⟩ : ∃ w0, w0 = w.alloc (.cells #[.slice A n c] 29) := ⟨_, rfl⟩
  have hl0 : Later w w0 := by rw [hw0]; exact later1 _ _
  have k0 := cell_regrown (show w0.cell? ⟨w.heap.size, 0, none⟩ = some (.slice A n c) by rw [hw0]; exact (Blk.new _ _ _ [.slice A n c] rfl).cell (j := 0) rfl)
  have K62 := reM (w := w0) (fun w' _ => laterEq (h62 w'))
  have KA := reM (w := w0) (fun w' _ => laterEq (HA.out w'))
  have KP := reM (w := w0) (fun w' _ => HP w')
  have hw1 := Lib.hid hw0
  have HL0 := Lib.hid hl0
  clear hw0 hl0 HP h62
  obtain ⟨h0, h1⟩ := ha
  unfold Tm.rF
  obtain ⟨x, hX⟩ : ∃ x, x = Tm.adr e := ⟨_, rfl⟩
  rw [← hX] at HA KA KP h0 h1 ⊢
  obtain ⟨q, hq⟩ : ∃ q, q = Tm.pageB n x := ⟨_, rfl⟩
  rw [← hq] at KP ⊢
  clear hX h hq
  cases hl : Tm.has e 64 with
  | true =>
    rw [hl] at HL
    rw [if_pos rfl]
    clear hl K62 KA KP
    go_enter Tryz.func190, Tryz.ntmps190
    go_wp2_with (first
      | (go_at_call 191; refine (HL.out _).mono ?_; rintro r w' ⟨rfl, rfl⟩)
      | (go_at_call 193; refine (HA.out _).mono ?_; rintro r w' ⟨rfl, rfl⟩))
    go_ret
    exact ⟨rfl, later1 _ _⟩
  | false =>
    rw [hl] at HL
    rw [if_neg (by decide)]
    clear hl
    cases hz : decide (e / 2 % 32 = 0) with
    | true =>
      rw [hz, show (!true) = false from rfl] at K62
      clear hz
      go_enter Tryz.func190, Tryz.ntmps190
      go_wp2_with (go_at_call 191; refine (HL.out _).mono ?_; rintro r w' ⟨rfl, rfl⟩)
      rw [← hw1.out]
      refine wp_region_quiet_below (by kernel_rfl) (by kernel_rfl) ?_
      repeat (go_big_quiet_step (first | with_reducible exact K62 _ _ | with_reducible exact KA _ _ | with_reducible exact KP _ _))
      refine wpQuiet_nil ?_
      rintro _ ⟨⟨dq, osq⟩, rfl⟩
      go_wp2
      go_ret
      exact ⟨rfl, Later.trans_ HL0.out (below_regrown w0 dq osq)⟩
    | false =>
      rw [hz, show (!false) = true from rfl] at K62
      clear hz
      go_enter Tryz.func190, Tryz.ntmps190
      go_wp2_with (go_at_call 191; refine (HL.out _).mono ?_; rintro r w' ⟨rfl, rfl⟩)
      rw [← hw1.out]
      refine wp_region_quiet_below (by kernel_rfl) (by kernel_rfl) ?_
      repeat (go_big_quiet_step (first | with_reducible exact K62 _ _ | with_reducible exact KA _ _ | with_reducible exact KP _ _))
      refine wpQuiet_nil ?_
      rintro _ ⟨⟨dq, osq⟩, rfl⟩
      go_wp2
      go_ret
      exact ⟨rfl, Later.trans_ HL0.out (below_regrown w0 dq osq)⟩
set_option maxRecDepth 100000 in
theorem wr_sz (x y z : Value) : (Tryz.prog.info? 64).map (·.size) = some [x, y, z].length := w_sz x y z
set_option maxRecDepth 100000 in
theorem estore_any (e a : Int) (w : World) (ha : 0 ≤ a ∧ a < 4294967296) : Calls Tryz.prog 182 #[.int .u32 e, .int .u32 a] w fun r w' => r = .returned (.agg #[.int .i64 a, .int .i64 4, .int .u32 e]) ∧ Later w w' := by
  obtain ⟨ha0, ha1⟩ := ha
  go_enter Tryz.func182, Tryz.ntmps182
  go_wp2
  exact bodyPost_ret (v := .agg #[.int .i64 a, .int .i64 4, .int .u32 e]) (results_blk Tryz.results182 _ _ w.heap.size 64 [.int .i64 a, .int .i64 4, .int .u32 e] _ rfl (Blk.new _ _ _ _ rfl) Tryz.underlying64 rfl (wr_sz _ _ _)) rfl ⟨rfl, later1 _ _⟩
set_option maxRecDepth 100000 in
/-- What an entry maps. -/
def Mp (va e : Int) : List Value := [.int .u32 va, .int .u32 (Tm.adr e), .int .i64 (e % 128)]
end Go.Proofs.YtidhodalnikhlaaGreatDoor

/-
  THE WALKS OF areMappable, with.
-/
namespace Go.Proofs.YtidhodalnikhlaaGreatDoor
open Go.RowKit Go.ChangeShapes Go.WideShapes Go.ChangeAt

namespace Tm
set_option maxRecDepth 100000 in
/-- Which tables may have an entry. -/
def mapB (n : Nat) (root va pa r s : Int) : Bool := decide (va < 131072) && (decide (va % s = 0) && (pageB n pa && (decide (pa % s = 0) && (decide (0 ≤ r ∧ r % 2 = 0 ∧ r ≤ 14) && rootB n root))))
end Tm
set_option maxRecDepth 100000 in
/-- The stores that make a page zero. -/
def zl (at_ : Int) : List (Int × Int × Int) := (List.range 32).map fun (k : Nat) => (at_ + (k : Int) * 4, 4, 0)
set_option maxRecDepth 100000 in
def zk (at_ : Int) (k : Nat) : List (Int × Int × Int) := (zl at_).take k ++ List.replicate (32 - k) (0, 0, 0)
end Go.Proofs.YtidhodalnikhlaaGreatDoor

/-
  THE WALK OF mapError.
-/
namespace Go.Proofs.YtidhodalnikhlaaGreatDoor
open Go.RowKit Go.ChangeShapes Go.WideShapes Go.ChangeAt

namespace Tm
set_option maxRecDepth 100000 in
theorem wd_e {b : Wm.Bs} (h : Wm.isBs b) (a : Int) : isE (wd b a) := by
  unfold wd Mm.ld
  split
  · have hb : Wm.isBs ((b.drop a.toNat).take (4 : Int).toNat) := isBs_take (isBs_drop h _) _
    refine ⟨Mm.le_nn hb, ?_⟩
    have h1 := Mm.le_lt hb
    have h2 : ((b.drop a.toNat).take (4 : Int).toNat).length ≤ 4 := List.length_take_le _ _
    have h3 : (256 : Int) ^ ((b.drop a.toNat).take (4 : Int).toNat).length ≤ 256 ^ 4 := by
      rcases (show ((b.drop a.toNat).take (4 : Int).toNat).length = 0 ∨ ((b.drop a.toNat).take (4 : Int).toNat).length = 1 ∨ ((b.drop a.toNat).take (4 : Int).toNat).length = 2 ∨ ((b.drop a.toNat).take (4 : Int).toNat).length = 3 ∨ ((b.drop a.toNat).take (4 : Int).toNat).length = 4 by omega) with e | e | e | e | e <;> rw [e] <;> decide
    exact Int.lt_of_lt_of_le h1 h3
  · exact ⟨by omega, by omega⟩
set_option maxRecDepth 100000 in
theorem pageB_lt {n : Nat} {a : Int} (h : pageB n a = true) : a % 128 = 0 ∧ a < (n : Int) * 128 := by
  unfold pageB at h
  rw [Bool.and_eq_true] at h
  exact ⟨of_decide_eq_true h.1, of_decide_eq_true h.2⟩
set_option maxRecDepth 100000 in
/-- The first error of Map, out of what is asked: may it be mapped; is the first entry valid, right, large; is table the root, can it be one; is the second entry valid. -/
def errB (bm v eq rt rf lg v2 : Bool) : Int :=
  if !bm then 1 else if !v && (eq || !rt) then 1 else if !v then 0 else if !rf then 3 else if lg || v2 then 6 else 0
set_option maxRecDepth 100000 in
def mapE (n : Nat) (b : Wm.Bs) (root va pa r tb : Int) : Int :=
  errB (mapB n root va pa r 128) (has (wd b (fA root va)) 1) (tb == root) (rootB n tb) (rF n (wd b (fA root va))) (has (wd b (fA root va)) 64) (has (wd b (sA (adr (wd b (fA root va))) va)) 1)
end Tm
set_option maxRecDepth 100000 in
theorem rF_page {n : Nat} {e : Int} (h : Tm.rF n e = true) (hl : Tm.has e 64 = false) : Tm.pageB n (Tm.adr e) = true := by
  unfold Tm.rF at h
  rw [hl, if_neg (by decide), Bool.and_eq_true] at h
  exact h.2
end Go.Proofs.YtidhodalnikhlaaGreatDoor

/-
  THE WALK OF MapLarge.
-/
namespace Go.Proofs.YtidhodalnikhlaaGreatDoor
open Go.RowKit Go.ChangeShapes Go.WideShapes Go.ChangeAt

set_option maxRecDepth 100000 in
/-- What hands back a memory of the call's own, and an error. -/
def GotME (n : Nat) (b : Wm.Bs) (E : Int) (w : World) (e : Ending) (w' : World) : Prop := ∃ g c', e = .returned (.tuple #[.agg #[.slice (some ⟨g, 0, none⟩) n c'], .int .i64 E]) ∧ w.heap.size ≤ g ∧ n ≤ c' ∧ c' ≤ maxLen ∧ Draft w' g n b ∧ Later w w'
namespace Tm
set_option maxRecDepth 100000 in
def errL (bm v : Bool) : Int := if !bm then 1 else if v then 6 else 0
set_option maxRecDepth 100000 in
def largeE (n : Nat) (b : Wm.Bs) (root va pa r : Int) : Int := errL (mapB n root va pa r 4096) (has (wd b (fA root va)) 1)
set_option maxRecDepth 100000 in
def largeM (n : Nat) (b : Wm.Bs) (root va pa r : Int) : Wm.Bs := if largeE n b root va pa r = 0 then Mm.st b (fA root va) 4 (pa + 65 + r) else b
end Tm
end Go.Proofs.YtidhodalnikhlaaGreatDoor

/-
  THE WALK OF Unmap.
-/
namespace Go.Proofs.YtidhodalnikhlaaGreatDoor
open Go.RowKit Go.ChangeShapes Go.WideShapes Go.ChangeAt

namespace Tm
set_option maxRecDepth 100000 in
/-- Unmap's error: is the address one, the root; is the first entry valid, right, large; is the second one valid. -/
def errU (lt rt v rf lg v2 : Bool) : Int := if !(lt && rt) then 1 else if v && !rf then 3 else if !v then 5 else if lg then 0 else if v2 then 0 else 5
set_option maxRecDepth 100000 in
def unmapE (n : Nat) (b : Wm.Bs) (root va : Int) : Int :=
  errU (decide (va < 131072)) (rootB n root) (has (wd b (fA root va)) 1) (rF n (wd b (fA root va))) (has (wd b (fA root va)) 64) (has (wd b (sA (adr (wd b (fA root va))) va)) 1)
set_option maxRecDepth 100000 in
def unmapM (n : Nat) (b : Wm.Bs) (root va : Int) : Wm.Bs :=
  if unmapE n b root va = 0 then Mm.st b (if has (wd b (fA root va)) 64 then fA root va else sA (adr (wd b (fA root va))) va) 4 0 else b
end Tm
end Go.Proofs.YtidhodalnikhlaaGreatDoor

/-
  THE WALK OF Map.
-/
namespace Go.Proofs.YtidhodalnikhlaaGreatDoor
open Go.RowKit Go.ChangeShapes Go.WideShapes Go.ChangeAt

namespace Tm
set_option maxRecDepth 100000 in
/-- The stores of Map that make a new table. -/
def newL (root va pa r tb : Int) : List (Int × Int × Int) := zl tb ++ [(fA root va, 4, tb + 1)] ++ [(sA tb va, 4, pa + 1 + r)]
set_option maxRecDepth 100000 in
def mapM (n : Nat) (b : Wm.Bs) (root va pa r tb : Int) : Wm.Bs :=
  if mapE n b root va pa r tb = 0 then (if has (wd b (fA root va)) 1 then Mm.st b (sA (adr (wd b (fA root va))) va) 4 (pa + 1 + r) else (Mm.ap b (newL root va pa r tb)).getD b) else b
end Tm
set_option maxRecDepth 100000 in
theorem Blk.grown {w w' : World} {B : Nat} {t : TypeId} {cs : List Value} {row : Option Nat} (h : Blk w B t cs) (g : w.grownBy w' row) (hne : some B ≠ row) : Blk w' B t cs := (g.block B h.lt hne).trans h
set_option maxRecDepth 100000 in
theorem news_blk {w : World} {B : Nat} {t : TypeId} {cs : List Value} (h : Blk w B t cs) : ∀ j u, cs[j]? = some u → w.cell? ((⟨B, 0, none⟩ : Addr).add j) = some u := fun j u hu => by
  rw [Addr.add_mid, Nat.zero_add]; exact h.cell hu
end Go.Proofs.YtidhodalnikhlaaGreatDoor

/-
  THE WALKS OF need, read, leaf: a walker keeps what it has read; where a condition does not hold it ends with a fault's panic.
-/
namespace Go.Proofs.YtidhodalnikhlaaGreatDoor
open Go.RowKit Go.ChangeShapes Go.WideShapes Go.ChangeAt

set_option maxRecDepth 100000 in
/-- A fault's panic. -/
def Flt : List PanicEntry := [{ v := .iface 232 (.agg #[]), recovered := false }]
set_option maxRecDepth 100000 in
theorem need_yes (w : World) : Calls Tryz.prog 176 #[.bool true] w fun e w' => e = .returned (.tuple #[]) ∧ w = w' := by
  go_enter Tryz.func176, Tryz.ntmps176
  go_wp2
  go_end0
  exact ⟨rfl, rfl⟩
set_option maxRecDepth 100000 in
theorem need_no (w : World) : Calls Tryz.prog 176 #[.bool false] w fun e w' => e = .panicked Flt ∧ w = w' := by
  go_enter Tryz.func176, Tryz.ntmps176
  go_wp2
  exact ⟨rfl, rfl, rfl⟩
set_option maxRecDepth 100000 in
/-- A walker over a memory, and what it has read, in a row at or beyond lo. -/
def Wkr (w : World) (base lo tB : Nat) (A : Option Addr) (n c : Nat) (xs : List Int) : Prop :=
  base ≤ tB ∧ base ≤ lo ∧ ∃ R k, Blk w tB 209 [.slice A n c, .slice R xs.length k] ∧ w.ownsRow lo 3 1 (.slice R xs.length k) xs.length (N64 xs) ∧ some tB ≠ (Value.slice R xs.length k).ownBlock
set_option maxRecDepth 100000 in
/-- .. that has read nothing. -/
def Wk0 (w : World) (base tB : Nat) (A : Option Addr) (n c : Nat) : Prop := base ≤ tB ∧ Blk w tB 209 [.slice A n c, .slice none 0 0]
set_option maxRecDepth 100000 in
theorem Wkr.later {w w' : World} {base lo tB : Nat} {A : Option Addr} {n c : Nat} {xs : List Int} (h : Wkr w base lo tB A n c xs) (l : Later w w') : Wkr w' base lo tB A n c xs := by
  obtain ⟨h0, hl, R, k, h1, h2, h3⟩ := h
  exact ⟨h0, hl, R, k, h1.keep l, own_below h2 l, h3⟩
set_option maxRecDepth 100000 in
theorem Wk0.later {w w' : World} {base tB : Nat} {A : Option Addr} {n c : Nat} (h : Wk0 w base tB A n c) (l : Later w w') : Wk0 w' base tB A n c := ⟨h.1, h.2.keep l⟩
set_option maxRecDepth 100000 in
theorem Wk0.wkr {w : World} {base tB : Nat} {A : Option Addr} {n c : Nat} (h : Wk0 w base tB A n c) (lo : Nat) (hl : base ≤ lo) : Wkr w base lo tB A n c [] :=
  ⟨h.1, hl, none, 0, h.2, World.ownsRow_nil _ _ _ _, by simp [Value.ownBlock]⟩
set_option maxRecDepth 100000 in
/-- Blocks below lo, but for tB, lie as they lay. -/
def Kept (lo tB : Nat) (w w' : World) : Prop := w.heap.size ≤ w'.heap.size ∧ ∀ B t cs, B < lo → B ≠ tB → Blk w B t cs → Blk w' B t cs
set_option maxRecDepth 100000 in
theorem Kept.trans {lo tB : Nat} {a b d : World} (h : Kept lo tB a b) (k : Kept lo tB b d) : Kept lo tB a d := ⟨Nat.le_trans h.1 k.1, fun B t cs hB hne hb => k.2 B t cs hB hne (h.2 B t cs hB hne hb)⟩
set_option maxRecDepth 100000 in
theorem Kept.later {lo tB : Nat} {a b d : World} (h : Kept lo tB a b) (k : Later b d) : Kept lo tB a d := ⟨Nat.le_trans h.1 k.size, fun B t cs hB hne hb => (h.2 B t cs hB hne hb).keep k⟩
set_option maxRecDepth 100000 in
theorem Kept.of {lo tB : Nat} {a b : World} (l : Later a b) : Kept lo tB a b := ⟨l.size, fun _ _ _ _ _ h => h.keep l⟩
set_option maxRecDepth 100000 in
theorem Kept.only {lo tB g : Nat} {a b d : World} (h : Kept lo tB a b) (o : Only g b d) (hg : lo ≤ g) : Kept lo tB a d := ⟨by rw [o.size]; exact h.1, fun B t cs hB hne hb => (h.2 B t cs hB hne hb).only o (by omega)⟩
set_option maxRecDepth 100000 in
theorem Kept.down {lo lo' tB : Nat} {a b : World} (h : Kept lo' tB a b) (hl : lo ≤ lo') : Kept lo tB a b := ⟨h.1, fun B t cs hB => h.2 B t cs (by omega)⟩
set_option maxRecDepth 100000 in
theorem i1_one (x : Int) : ∀ u ∈ [Value.int .i64 x], u.oneCell' = true := by
  intro u hu
  simp only [List.mem_cons, List.not_mem_nil, or_false] at hu
  rcases hu with rfl; rfl
set_option maxRecDepth 100000 in
theorem N64_snoc (xs : List Int) (x : Int) : N64 (xs ++ [x]) = N64 xs ++ [.int .i64 x] := by unfold N64; rw [List.map_append]; rfl
set_option maxRecDepth 100000 in
theorem own_only1 {w w' : World} {base B : Nat} {e : TypeId} {size n g c m : Nat} {xs : List Value} (h : w.ownsRow base e size (.slice (some ⟨g, 0, none⟩) n c) m xs) (k : Only B w w') (hne : g ≠ B) : w'.ownsRow base e size (.slice (some ⟨g, 0, none⟩) n c) m xs := by
  refine ⟨h.1, ?_⟩
  rcases h.2 with h2 | ⟨g2, cap, cur, h1, h2, h3, h4⟩
  · exact .inl h2
  · refine .inr ⟨g2, cap, cur, h1, h2, ?_, h4⟩
    have : g = g2 := by injection h1 with h1; injection h1 with h1; injection h1
    rw [k.2.2.2.2 g2 (by rw [← this]; exact hne)]
    exact h3
set_option maxRecDepth 100000 in
set_option maxHeartbeats 2000000 in
theorem read_any (A : Option Addr) (n c : Nat) (a : Int) (b : Wm.Bs) (base lo tB : Nat) (xs : List Int) (w0 w : World) (hb0 : base = w0.heap.size) (hs : Sl w0 128 A n (U b)) (hb : Wm.isBs b) (hn1 : 1 ≤ n) (hn : n ≤ 64) (ha : 0 ≤ a ∧ a < 4294967296) (hW : Wkr w base lo tB A n c xs) (hx : xs.length ≤ 1000) (hlo : lo ≤ w.heap.size) (hl : Later w0 w) :
    Calls Tryz.prog 188 #[.pointer (some ⟨tB, 0, none⟩), .int .u32 a] w fun e w' => e = .returned (.int .u32 (Tm.wd b a)) ∧ Wkr w' base lo tB A n c (xs ++ [a]) ∧ Later w0 w' ∧ Kept lo tB w w' := by
  obtain ⟨i0, hi, hz0, hz1, hz2⟩ := info_parts int_info
  have HI := Lib.hid (show _ ∧ _ ∧ _ ∧ _ from ⟨hi, hz0, hz1, hz2⟩)
  clear hi hz0 hz1 hz2
  have HL := Lib.hid fun w' (hl : Later w0 w') => tload_any A n c a b w' (hs.keep hl) hb hn1 hn ha
  obtain ⟨h0, hbl, R, k, h1, h2, h3⟩ := hW
  obtain ⟨x, hX⟩ : ∃ x, x = Tm.wd b a := ⟨_, rfl⟩
  rw [← hX] at HL ⊢
  have cm := h1.cell (j := 0) (v := .slice A n c) rfl
  have cr := h1.cell (j := 1) (v := .slice R xs.length k) rfl
  have fm := h1.frz 1
  have hlt := h1.lt
  have hbs : base ≤ w.heap.size := by have := hl.size; omega
  have HB0 := Lib.hid hb0
  have HXS := Lib.hid (N64_snoc xs a)
  have hxl : (xs ++ [a]).length = xs.length + 1 := by simp
  have HXL := Lib.hid hxl
  obtain ⟨m, hm⟩ : ∃ m, m = xs.length := ⟨_, rfl⟩
  rw [← hm] at h1 h2 h3 cr hx HXL
  have HM := Lib.hid hm
  obtain ⟨ha0, ha1⟩ := ha
  clear hX hs hb hb0 hxl hm
  go_enter Tryz.func188, Tryz.ntmps188
  go_wp2_with (first
    | (at_builtin; refine wpList_append_lies _ rfl _ _ 120 rfl lo 3 i0 (.int .i64 0) 1 8 Tryz.underlying120 HI.out.1 HI.out.2.1 HI.out.2.2.1 HI.out.2.2.2 rfl (by decide) _ m (N64 xs) rfl (h2.alloc _) ⟨w.heap.size, 0, none⟩ 1 1 [.int .i64 a] rfl rfl (news_blk (Blk.new w _ _ _ rfl)) (i1_one _) (by decide) (by unfold maxLen; omega) (by omega) (by simp; omega) _ rfl ?_; intro g1 cap1 w1 own1 grow1 hat1 hlt1; have b1 := (h1.alloc (.cells #[.int .i64 a] 3)).grown grow1 h3; clear cm cr fm; have cm := b1.cell (j := 0) (v := .slice A n c) rfl; have cr := b1.cell (j := 1) (v := .slice R m k) rfl; have fm := b1.frz 1; have hne : tB ≠ g1 := (fun e => hat1.elim (fun h => h3 (by rw [e]; exact h.symm)) (fun h => (by have h5 : g1 = w.heap.size + 1 := (by simpa using h); omega))); have lB : Below base w w1 := (((Below.refl base w).alloc hbs _).grown grow1 (by simp; omega) (fun j hj => Nat.le_trans hbl (h2.lt j hj).1)); have kB : ∀ B t cs, B < lo → B ≠ tB → Blk w B t cs → Blk w1 B t cs := (fun B t cs hB hne' hb' => (hb'.alloc (.cells #[.int .i64 a] 3)).grown grow1 (fun e => Nat.lt_irrefl B (Nat.lt_of_lt_of_le hB (h2.lt B e.symm).1))))
    | (go_at_call 200; have lw1 : Later w0 (w1.setCell ⟨tB, 1, none⟩ (.slice (some ⟨g1, 0, none⟩) (m + 1) cap1)) := (hl.trans (by rw [← HB0.out]; exact lB)).setCell (p := ⟨tB, 1, none⟩) (by rw [← HB0.out]; exact h0) _; refine (HL.out _ lw1).mono ?_; rintro e w2 ⟨rfl, l2⟩))
  have b2 := (b1.set 1 (.slice (some ⟨g1, 0, none⟩) (m + 1) cap1)).keep l2
  have own2 := own_below (own_only1 own1 (Only.set w1 tB 1 (.slice (some ⟨g1, 0, none⟩) (m + 1) cap1)) (fun e => hne e.symm)) l2
  go_ret
  refine ⟨rfl, ⟨h0, hbl, some ⟨g1, 0, none⟩, cap1, ?_, ?_, ?_⟩, Later.trans_ lw1 l2, ⟨Nat.le_trans lB.size (Nat.le_trans (by simp) l2.size), fun B t cs hB hne' hb' => ((kB B t cs hB hne' hb').set_other ⟨tB, 1, none⟩ _ hne').keep l2⟩⟩
  · rw [HXL.out]; exact b2
  · rw [HXL.out, HXS.out]; exact own2
  · rw [HXL.out]; intro e; exact hne (Option.some.inj e)
end Go.Proofs.YtidhodalnikhlaaGreatDoor
