/-
  THE WALKS OF the reference's address, has, Cause, page, word, below.
-/
import Derived.Test.YtempcbdlaoblhabTabQ
namespace Go.Proofs.Ytempcbdlaoblhab
open Go.RowKit Go.ChangeShapes Go.WideShapes Go.ChangeAt

theorem wrp64 (n : Int) (h₀ : 0 ≤ n) (h₁ : n < 2 ^ 63) : IntKind.i64.wrap n = n := by rw [IntKind.wrap_i64]; omega
theorem raddress_any (e : Int) (w : World) (h : 0 ≤ e ∧ e < 1099511627776) : Calls Try.prog 59 #[.int .i64 e] w fun r w' => r = .returned (.int .i64 (Tm.adr e)) ∧ w = w' := by
  have hq : e.tdiv 128 = e / 128 := Int.tdiv_eq_ediv_of_nonneg h.1
  have hz : IntKind.i64.wrap (e / 128 * 128) = e / 128 * 128 := wrp64 _ (by omega) (by omega)
  go_enter Try.func59, Try.ntmps59
  go_wp2
  go_ret
  exact ⟨rfl, rfl⟩
theorem rcause_any (acc : Int) (w : World) (h : 1 ≤ acc ∧ acc ≤ 4) : Calls Try.prog 32 #[.int .i64 acc] w fun r w' => r = .returned (.int .i64 (Tm.cause acc)) ∧ w = w' := by
  rcases (show acc = 1 ∨ acc = 2 ∨ acc = 3 ∨ acc = 4 by omega) with rfl | rfl | rfl | rfl
  all_goals go_enter Try.func32, Try.ntmps32
  all_goals go_wp2
  all_goals go_ret
  all_goals exact ⟨rfl, rfl⟩
theorem rhas_any (e M : Int) (w : World) (h : 0 ≤ e ∧ e < 1099511627776) (hM : 1 ≤ M ∧ M ≤ 64) : Calls Try.prog 36 #[.int .i64 e, .int .i64 M] w fun r w' => r = .returned (.bool (Tm.has e M)) ∧ w = w' := by
  have hq : e.tdiv M = e / M := Int.tdiv_eq_ediv_of_nonneg h.1
  have hd0 : 0 ≤ e / M := Int.ediv_nonneg h.1 (by omega)
  have hd1 : e / M ≤ e := Int.ediv_le_self _ h.1
  have hr : (e / M).tmod 2 = e / M % 2 := Int.tmod_eq_emod_of_nonneg hd0
  have hm0 : ¬ M = 0 := by omega
  have hm1 : (M == 0) = false := by simpa using hm0
  have hz : IntKind.i64.wrap (e / M) = e / M := wrp64 _ hd0 (by omega)
  unfold Tm.has
  have hb : (e / M % 2 == 1) = decide (e / M % 2 = 1) := by rw [Bool.eq_iff_iff]; simp
  rw [← hb]
  clear hb
  go_enter Try.func36, Try.ntmps36
  go_wp2
  go_ret
  exact ⟨rfl, rfl⟩
theorem rpage_any (A : Option Addr) (n c : Nat) (a : Int) (w : World) (hn : n ≤ 64) (ha : 0 ≤ a ∧ a < 1099511627776) : Calls Try.prog 34 #[.agg #[.slice A n c], .int .i64 a] w fun r w' => r = .returned (.bool (Tm.pageB n a)) ∧ Later w w' := by
  have HS := Lib.hid fun w' => rsize_any A n c w' hn
  have hr : a.tmod 128 = a % 128 := Int.tmod_eq_emod_of_nonneg ha.1
  have h0 : 0 ≤ a := ha.1
  unfold Tm.pageB
  rw [show ((n : Int) * 128) = ((n * 128 : Nat) : Int) by omega]
  obtain ⟨N, hN⟩ : ∃ N : Int, N = ((n * 128 : Nat) : Int) := ⟨_, rfl⟩
  rw [← hN] at HS ⊢
  clear hN ha
  by_cases h1 : a % 128 = 0
  · have e1 : (a % 128 == 0) = true := beq_iff_eq.2 h1
    rw [decide_eq_true h1, Bool.true_and]
    go_enter Try.func34, Try.ntmps34
    go_wp2_with (go_at_call 33; refine (HS.out _).mono ?_; rintro e w1 ⟨rfl, l1⟩)
    go_ret
    exact ⟨rfl, Later.trans_ (later1 _ _) l1⟩
  · have e1 : (a % 128 == 0) = false := beq_eq_false_iff_ne.2 h1
    rw [decide_eq_false h1, Bool.false_and]
    go_enter Try.func34, Try.ntmps34
    go_wp2
    go_ret
    exact ⟨rfl, later1 _ _⟩
theorem ld_f0 (x y : Value) (w : World) : (Instr.field 123 (.agg #[x, y]) 0).run Try.prog w = .ok x w := by kernel_rfl
set_option maxRecDepth 100000 in
theorem rword_any (A : Option Addr) (n c : Nat) (a : Int) (b : Wm.Bs) (w : World) (hs : Sl w 128 A n (U b)) (hb : Wm.isBs b) (hn : n ≤ 64) (ha : 0 ≤ a ∧ a < 1099511627776) : Calls Try.prog 56 #[.agg #[.slice A n c], .int .i64 a] w fun r w' => r = .returned (.int .i64 (Tm.wd b a)) ∧ Later w w' := by
  have HL := Lib.hid fun w' (hl : Later w w') => rload_any A n c a 4 b w' (hs.keep hl) hb hn (by omega)
  have he := Tm.wd_e hb a
  unfold Tm.wd at he ⊢
  obtain ⟨x, hx⟩ : ∃ x, x = Mm.ld b a 4 := ⟨_, rfl⟩
  rw [← hx] at HL he ⊢
  have h0 := he.1
  have h1 := he.2
  clear hx he hs hb
  have hf := ld_f0
  have hw : IntKind.i64.wrap x = x := wrp64 _ h0 (by omega)
  go_enter Try.func56, Try.ntmps56
  go_wp2_with (go_at_call 77; refine (HL.out _ (later1 _ _)).mono ?_; rintro e w1 ⟨rfl, l1⟩)
  go_ret
  exact ⟨rfl, Later.trans_ (later1 _ _) l1⟩
end Go.Proofs.Ytempcbdlaoblhab
