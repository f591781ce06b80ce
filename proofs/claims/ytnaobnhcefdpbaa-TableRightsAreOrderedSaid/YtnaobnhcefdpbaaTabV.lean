/-
  THE STATEMENT TableRightsAreOrdered: what is possible in user mode is possible in kernel mode, at the same place; where a store is, a load; only the causes named; for every memory, root and virtual address.
-/
import Derived.Test.YtnaobnhcefdpbaaTabU
namespace Go.Proofs.Ytnaobnhcefdpbaa
open Go.RowKit Go.ChangeShapes Go.WideShapes Go.ChangeAt

theorem walk_has {n : Nat} {b : Wm.Bs} {root va acc : Int} {u : Bool} (h : (Tm.walk n b root va acc u).ok = true) :
    (root = 0 ∧ va < (n : Int) * 128 ∧ Tm.walk n b root va acc u = ⟨true, va, -1, [], []⟩) ∨ (root ≠ 0 ∧ (decide (va < 131072) && Tm.pageB n root) = true ∧ ((Tm.find n b root va).ok && Tm.pageB n (Tm.pgOf (Tm.find n b root va).e va)) = true ∧ Tm.allows (Tm.find n b root va).e acc u = true ∧ Tm.walk n b root va acc u = Tm.wkOf (Tm.find n b root va) va acc) := by
  unfold Tm.walk at h ⊢
  by_cases h0 : root = 0
  · rw [if_pos h0] at h ⊢
    unfold Tm.unt at h ⊢
    by_cases h1 : va < (n : Int) * 128
    · rw [if_pos h1]
      exact .inl ⟨h0, h1, rfl⟩
    · rw [if_neg h1] at h
      cases h
  · rw [if_neg h0] at h ⊢
    unfold Tm.trans at h ⊢
    by_cases h1 : (decide (va < 131072) && Tm.pageB n root) = true
    · rw [if_pos h1] at h ⊢
      by_cases h2 : ((Tm.find n b root va).ok && (Tm.pageB n (Tm.pgOf (Tm.find n b root va).e va) && Tm.allows (Tm.find n b root va).e acc u)) = true
      · rw [if_pos h2]
        simp only [Bool.and_eq_true] at h2 ⊢
        exact .inr ⟨h0, by simpa using h1, ⟨h2.1, h2.2.1⟩, h2.2.2, trivial⟩
      · rw [if_neg h2] at h
        cases h
    · rw [if_neg h1] at h
      cases h
theorem walk_let {n : Nat} {b : Wm.Bs} {root va acc : Int} {u : Bool} (h0 : root ≠ 0) (h1 : (decide (va < 131072) && Tm.pageB n root) = true) (h2 : ((Tm.find n b root va).ok && Tm.pageB n (Tm.pgOf (Tm.find n b root va).e va)) = true) (h3 : Tm.allows (Tm.find n b root va).e acc u = true) :
    Tm.walk n b root va acc u = Tm.wkOf (Tm.find n b root va) va acc := by
  unfold Tm.walk Tm.trans
  rw [if_neg h0, if_pos h1, if_pos (by rw [← Bool.and_assoc, h2, h3]; rfl)]
theorem allows_mode {e acc : Int} (h : Tm.allows e acc true = true) : Tm.allows e acc false = true := by
  unfold Tm.allows at h ⊢
  revert h
  cases Tm.isSt acc <;> cases Tm.has e 2 <;> cases decide (acc = 4) <;> cases Tm.has e 8 <;> simp
theorem allows_load {e acc : Int} {u : Bool} (h : Tm.allows e acc u = true) : Tm.allows e 1 u = true := by
  unfold Tm.allows at h ⊢
  rw [show Tm.isSt 1 = false from rfl, show decide ((1 : Int) = 4) = false from rfl]
  revert h
  cases Tm.isSt acc <;> cases Tm.has e 2 <;> cases decide (acc = 4) <;> cases Tm.has e 8 <;> cases u <;> cases Tm.has e 4 <;> simp
/-- User mode is within kernel mode. -/
theorem walk_mode {n : Nat} {b : Wm.Bs} {root va acc : Int} (h : (Tm.walk n b root va acc true).ok = true) : (Tm.walk n b root va acc false).ok = true ∧ (Tm.walk n b root va acc true).a = (Tm.walk n b root va acc false).a ∧ (Tm.walk n b root va acc true).l = (Tm.walk n b root va acc false).l := by
  rcases walk_has h with ⟨h0, h1, h2⟩ | ⟨h0, h1, h2, h3, h4⟩
  · have h5 : Tm.walk n b root va acc false = ⟨true, va, -1, [], []⟩ := by unfold Tm.walk Tm.unt; rw [if_pos h0, if_pos h1]
    rw [h2, h5]
    exact ⟨rfl, rfl, rfl⟩
  · rw [h4, walk_let h0 h1 h2 (allows_mode h3)]
    exact ⟨rfl, rfl, rfl⟩
/-- Every access is within a load. -/
theorem walk_load {n : Nat} {b : Wm.Bs} {root va acc : Int} {u : Bool} (h : (Tm.walk n b root va acc u).ok = true) : (Tm.walk n b root va 1 u).ok = true ∧ (Tm.walk n b root va 1 u).a = (Tm.walk n b root va acc u).a ∧ (Tm.walk n b root va 1 u).l = (Tm.walk n b root va acc u).l := by
  rcases walk_has h with ⟨h0, h1, h2⟩ | ⟨h0, h1, h2, h3, h4⟩
  · have h5 : Tm.walk n b root va 1 u = ⟨true, va, -1, [], []⟩ := by unfold Tm.walk Tm.unt; rw [if_pos h0, if_pos h1]
    rw [h2, h5]
    exact ⟨rfl, rfl, rfl⟩
  · rw [h4, walk_let h0 h1 h2 (allows_load h3)]
    exact ⟨rfl, rfl, rfl⟩
theorem walk_swap (n : Nat) (b : Wm.Bs) (root va : Int) (u : Bool) : (Tm.walk n b root va 2 u).ok = (Tm.walk n b root va 3 u).ok := by
  unfold Tm.walk Tm.trans
  split
  · rfl
  · split
    · rw [show ∀ e, Tm.allows e 2 u = Tm.allows e 3 u from fun _ => rfl]
      split <;> rfl
    · rfl
theorem walk_gets (A : Option Addr) (n c : Nat) (root va acc : Int) (u : Bool) (b : Wm.Bs) (w0 : World) (hs : Sl w0 128 A n (U b)) (hb : Wm.isBs b) (h1 : 1 ≤ n ∧ n ≤ 64) (hr : 0 ≤ root ∧ root ≤ 4294967295) (hv : 0 ≤ va ∧ va ≤ 4294967295) (X : Tm.Wk) (hX : Tm.walk n b root va acc u = X) (ca : Int) (hc : (if X.ok then 0 else Tm.cause acc) = ca) (w : World) (hl : Later w0 w) :
    Calls Try.prog 11 #[.agg #[.slice A n c], .int .u32 root, .int .u32 va, .int .i64 acc, .bool u] w (GotX X.a X.l X.s X.r X.s.length X.r.length ca w) := by
  have h := twalk_any A n c root va acc u b w (hs.keep hl) hb h1.1 h1.2 hr.1 (by omega) hv.1 (by omega)
  rw [hX] at h
  refine h.mono fun e w' hh => ?_
  unfold GotW at hh
  rw [hc] at hh
  exact hh

set_option maxRecDepth 100000 in
theorem ordered_bad (A : Option Addr) (n c : Nat) (root va : Int) (w : World) (h : ¬ (1 ≤ n ∧ n ≤ 64)) :
    Calls Try.prog 6 #[.agg #[.slice A n c], .int .u32 root, .int .u32 va] w fun e w' => e = .returned (.bool true) ∧ Later w w' := by
  have HV := Lib.hid fun w' => rvalid_any A n c w'
  rw [decide_eq_false h] at HV
  have HN := Lib.hid fun w' => sanity_any w'
  clear h
  go_enter Try.func6, Try.ntmps6
  go_wp2_with (first
    | (go_at_call 8; refine (HV.out _).mono ?_; rintro e w1 ⟨rfl, l1⟩)
    | (go_at_call 10; refine (HN.out _).mono ?_; rintro e w2 ⟨rfl, l2⟩))
  go_ret
  exact ⟨rfl, Later.trans_ (Later.trans_ (later1 _ _) l1) l2⟩
end Go.Proofs.Ytnaobnhcefdpbaa
