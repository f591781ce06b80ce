/-
  THE WALK OF the reference's Source.
-/
import Derived.Test.YtjopadfkdpcjmaaDoorLexRa
namespace Go.Proofs.YtjopadfkdpcjmaaDoor
open Go.RowKit Go.ChangeShapes Go.WideShapes Go.ChangeAt

set_option maxRecDepth 100000 in
set_option maxHeartbeats 2000000 in
theorem rsource_any (t : Lx.Tok) (w : World) (hr : Lx.right t = true) :
    Calls Tryd.prog 22 #[.agg (Tk t).toArray] w fun e w' => ∃ x : ByteArray, e = .returned (.string x) ∧ L x = Lx.src t ∧ Later w w' := by
  obtain ⟨tk, ta, tn, ts⟩ := t
  obtain ⟨s, hs⟩ : ∃ s : ByteArray, (⟨ts.toArray⟩ : ByteArray) = s := ⟨_, rfl⟩
  have hLs : L s = ts := by rw [← hs, L_mk]
  unfold Lx.right at hr
  unfold Tk
  simp only at hr ⊢
  rw [hs]
  clear hs
  have hl1 := later1 w (.cells #[.int .i64 tk, .int .i64 ta, .int .i64 tn, .string s] 41)
  by_cases e2 : tk = 2
  · subst e2
    rw [if_neg (by decide), if_pos rfl] at hr
    simp only [Bool.and_eq_true, decide_eq_true_eq] at hr
    obtain ⟨h0, h1, h2⟩ := hr
    obtain ⟨m, rfl⟩ : ∃ m : Nat, tn = (m : Int) := ⟨tn.toNat, by omega⟩
    have HD := Lib.hid fun w' => decimal_any m w' (by omega)
    have HS := Lib.hid (show Lx.src ⟨2, ta, (m : Int), ts⟩ = Lx.dec m by unfold Lx.src; rw [if_pos rfl]; rfl)
    clear h0 h1 h2 hLs
    go_enter Tryd.func22, Tryd.ntmps22
    go_wp2_with (go_at_call 38; (with_reducible refine (HD.out _).mono ?_); rintro e w' ⟨x, rfl, hx, l1⟩)
    go_ret
    exact ⟨x, rfl, by rw [HS.out]; exact hx, Later.trans_ hl1 l1⟩
  have b2 : (tk == 2) = false := beq_eq_false_iff_ne.2 e2
  by_cases e3 : tk = 3
  · subst e3
    rw [if_neg (by decide), if_neg (by decide), if_pos rfl] at hr
    simp only [Bool.and_eq_true, decide_eq_true_eq] at hr
    have hss : s.size ≤ 16384 := by rw [← L_len, hLs]; exact hr.2
    have HD := Lib.hid fun w' => rquoted_any s w' (by omega)
    have HS := Lib.hid (show Lx.src ⟨3, ta, tn, ts⟩ = Lx.quoted (L s) by unfold Lx.src; rw [if_neg (by simp), if_pos rfl, hLs])
    clear hr hLs hss e2 b2
    go_enter Tryd.func22, Tryd.ntmps22
    go_wp2_with (go_at_call 39; (with_reducible refine (HD.out _).mono ?_); rintro e w' ⟨x, rfl, hx, l1⟩)
    go_ret
    exact ⟨x, rfl, by rw [HS.out]; exact hx, Later.trans_ hl1 l1⟩
  have b3 : (tk == 3) = false := beq_eq_false_iff_ne.2 e3
  by_cases e5 : tk = 5
  · subst e5
    have HS := Lib.hid (show Lx.src ⟨5, ta, tn, ts⟩ = [10] by unfold Lx.src; rw [if_neg (by simp), if_neg (by simp), if_pos rfl])
    clear hr hLs e2 e3 b2 b3
    go_enter Tryd.func22, Tryd.ntmps22
    go_wp2
    go_ret
    exact ⟨_, rfl, by rw [HS.out], hl1⟩
  have b5 : (tk == 5) = false := beq_eq_false_iff_ne.2 e5
  have HS := Lib.hid (show Lx.src ⟨tk, ta, tn, ts⟩ = L s by unfold Lx.src; rw [if_neg e2, if_neg e3, if_neg e5, hLs])
  clear hr hLs e2 e3 e5
  go_enter Tryd.func22, Tryd.ntmps22
  go_wp2
  go_ret
  exact ⟨_, rfl, HS.out.symm, hl1⟩
end Go.Proofs.YtjopadfkdpcjmaaDoor
