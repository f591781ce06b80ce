/-
  THE WALK OF the reference's rights.
-/
import Derived.Test.YtempcbdlaoblhabTabRf
namespace Go.Proofs.Ytempcbdlaoblhab
open Go.RowKit Go.ChangeShapes Go.WideShapes Go.ChangeAt

/-- A number of rights. -/
def Tm.rightsB (r : Int) : Bool := decide (0 ≤ r) && (decide (r % 2 = 0) && decide (r ≤ 14))
theorem rrights_any (r : Int) (w : World) : Calls Try.prog 51 #[.int .i64 r] w fun e w' => e = .returned (.bool (Tm.rightsB r)) ∧ w = w' := by
  unfold Tm.rightsB
  by_cases h0 : 0 ≤ r
  · have d0 : decide (0 ≤ r) = true := decide_eq_true h0
    have t : r.tmod 2 = r % 2 := Int.tmod_eq_emod_of_nonneg h0
    rw [d0, Bool.true_and]
    by_cases h2 : r % 2 = 0
    · have d2 : (r % 2 == 0) = true := by simpa using h2
      rw [decide_eq_true h2, Bool.true_and]
      clear h0
      go_enter Try.func51, Try.ntmps51
      go_wp2
      go_ret
      exact ⟨by simp, rfl⟩
    · have d2 : (r % 2 == 0) = false := by simpa using h2
      rw [decide_eq_false h2, Bool.false_and]
      clear h0
      go_enter Try.func51, Try.ntmps51
      go_wp2
      go_ret
      exact ⟨rfl, rfl⟩
  · have d0 : decide (0 ≤ r) = false := decide_eq_false h0
    rw [d0, Bool.false_and]
    clear h0
    go_enter Try.func51, Try.ntmps51
    go_wp2
    go_ret
    exact ⟨rfl, rfl⟩
end Go.Proofs.Ytempcbdlaoblhab
