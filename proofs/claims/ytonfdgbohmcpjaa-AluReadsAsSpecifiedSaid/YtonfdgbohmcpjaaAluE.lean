/-
  THE WALKS OF alu: Extend, Byte, SetByte.
-/
import Derived.Test.YtonfdgbohmcpjaaAluBits
import Derived.Test.YtonfdgbohmcpjaaAluA
import Derived.Laws.Bits64
import Derived.Laws.BitsLemmas
import Derived.Lib.QuietBelow
import Derived.BigQuiet
import Derived.Deep.QuietTactic
namespace Go.Proofs.Ytonfdgbohmcpjaa
open Go.RowKit Go.ChangeShapes Go.WideShapes Go.ChangeAt

section
variable (w : World)
set_option maxRecDepth 100000 in
theorem extend_any {x : Int} (h0 : 0 ≤ x) (h1 : x < 4294967296) (n : Int) (hn0 : 1 ≤ n) (hn1 : n ≤ 32) : Calls Try.prog 15 #[.int .u32 x, .int .i64 n] w fun e w' => e = .returned (.int .u32 (Al.X n x)) ∧ w = w' := by
  rw [← Al.X_eq h0 h1 hn0 hn1]
  go_enter Try.func15, Try.ntmps15
  go_wp2
  go_ret
  exact ⟨rfl, rfl⟩
set_option maxRecDepth 100000 in
theorem place_any (k : Int) : Calls Try.prog 33 #[.int .i64 k] w fun e w' => e = .returned (.int .i64 (8 * (k % 4))) ∧ w = w' := by
  have e := Al.place_and k
  obtain ⟨m, hm⟩ : ∃ m, m = k % 4 := ⟨_, rfl⟩
  have hm1 : 0 ≤ m ∧ m < 4 := by omega
  rw [← hm] at e ⊢
  clear hm
  go_enter Try.func33, Try.ntmps33
  go_wp2
  go_ret
  exact ⟨rfl, rfl⟩
end
set_option maxRecDepth 100000 in
theorem byte_any (x k : Int) (w : World) : Calls Try.prog 19 #[.int .u32 x, .int .i64 k] w fun e w' => e = .returned (.int .u8 (Al.BY x (8 * (k % 4)))) ∧ w = w' := by
  have HP := Lib.hid fun w => place_any w k
  obtain ⟨p, hq⟩ : ∃ p, p = 8 * (k % 4) := ⟨_, rfl⟩
  have hp : 0 ≤ p ∧ p < 32 := by omega
  rw [← hq] at HP ⊢
  clear hq
  go_enter Try.func19, Try.ntmps19
  go_wp2_with (go_at_call 33; refine (HP.out _).mono ?_; rintro e w1 ⟨rfl, rfl⟩)
  go_ret
  exact ⟨rfl, rfl⟩
theorem reM {f : FuncId} {args : Array Value} {w : World} {v : Value} (h : ∀ w', Later w w' → Calls Try.prog f args w' fun e w'' => e = .returned v ∧ Later w' w'') (d : Nat) (os : Array Obj) :
    Calls Try.prog f args (Sort.grow (redrawn w d) os) fun e w'' => e = .returned v ∧ ∃ p : Regrown, w'' = Sort.grow (redrawn w p.d) p.os := Calls.regrown_of (h _ (below_regrown w d os))
set_option maxRecDepth 100000 in
set_option maxHeartbeats 1000000 in
theorem set_any {x : Int} (h0 : 0 ≤ x) (h1 : x < 4294967296) (w : World) (k y : Int) (hy0 : 0 ≤ y) (hy1 : y < 256) :
    Calls Try.prog 21 #[.int .u32 x, .int .i64 k, .int .u8 y] w fun e w' => e = .returned (.int .u32 (Al.SB x (8 * (k % 4)) y)) ∧ Later w w' := by
  have K := reM (w := w) (fun w' _ => (place_any w' k).mono fun e w'' ⟨h1, h2⟩ => (⟨h1, h2 ▸ Below.refl _ _⟩ : e = _ ∧ Later w' w''))
  obtain ⟨p, hq⟩ : ∃ p, p = 8 * (k % 4) := ⟨_, rfl⟩
  have hp : 0 ≤ p ∧ p < 32 := by omega
  have hb := Al.setb h0 h1 hy0 hy1 (show p = 0 ∨ p = 8 ∨ p = 16 ∨ p = 24 by omega)
  rw [← hq] at K ⊢
  rw [← hb]
  clear hq hb
  go_enter Try.func21, Try.ntmps21
  go_wp2
  refine wp_region_quiet_below (by kernel_rfl) (by kernel_rfl) ?_
  repeat (go_big_quiet_step (first | with_reducible exact K _ _))
  refine wpQuiet_nil ?_
  rintro _ ⟨⟨dq, osq⟩, rfl⟩
  go_wp2
  go_ret
  exact ⟨rfl, below_regrown w dq osq⟩
end Go.Proofs.Ytonfdgbohmcpjaa
