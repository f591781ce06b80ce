/-
  THE STATEMENT AluDoesAsSpecified: Do and Taken answer as the specification does, for every number and every two words.
-/
import Derived.Test.YtonfdgbohmcpjaaAluJ
import Derived.Test.YtonfdgbohmcpjaaAluI
namespace Go.Proofs.Ytonfdgbohmcpjaa
open Go.RowKit Go.ChangeShapes Go.WideShapes Go.ChangeAt

set_option maxRecDepth 100000 in
set_option maxHeartbeats 1000000 in
theorem lawDoes_any {b c : Int} (hb0 : 0 ≤ b) (hb1 : b < 4294967296) (hc0 : 0 ≤ c) (hc1 : c < 4294967296) (op : Int) (w : World) :
    Calls Try.prog 3 #[.int .i64 op, .int .u32 b, .int .u32 c] w fun e w' => e = .returned (.bool true) ∧ Later w w' := by
  have HD := Lib.hid fun w => do_any hb0 hb1 hc0 hc1 w op
  have HR := Lib.hid fun w => rdo_any hb0 hb1 hc0 hc1 w op
  have HT := Lib.hid fun w => tk_any hb0 hb1 hc0 hc1 w op
  have HQ := Lib.hid fun w => rtk_any hb0 hb1 hc0 hc1 w op
  obtain ⟨x, hx⟩ : ∃ x, x = Al.I op b c := ⟨_, rfl⟩
  obtain ⟨r, hr⟩ : ∃ r, r = Al.Er op := ⟨_, rfl⟩
  obtain ⟨t, ht⟩ : ∃ t, t = Al.T op b c := ⟨_, rfl⟩
  rw [← hx, ← hr] at HD HR
  rw [← ht] at HT HQ
  clear hx hr ht
  have HSN := Lib.hid sanity_any
  go_enter Try.func3, Try.ntmps3
  go_wp2_with (first
    | (go_at_call 10; refine (HD.out _).mono ?_; rintro e w1 ⟨rfl, l1⟩)
    | (go_at_call 11; refine (HR.out _).mono ?_; rintro e w2 ⟨rfl, l2⟩)
    | (go_at_call 12; refine (HSN.out _).mono ?_; rintro e ws ⟨rfl, ls⟩; have cb := (Blk.new w2 _ #[.int .u32 x, .int .i64 r] [.int .u32 x, .int .i64 r] rfl).keep ls; have c0 := cb.cell (j := 0) rfl; have c1 := cb.cell (j := 1) rfl; have l5 := later1 w2 (.cells #[.int .u32 x, .int .i64 r] 27))
    | (go_at_call 13; refine (HT.out _).mono ?_; rintro e w3 ⟨rfl, l3⟩)
    | (go_at_call 14; refine (HQ.out _).mono ?_; rintro e w4 ⟨rfl, rfl⟩))
  go_ret
  exact ⟨rfl, by repeat (first | assumption | refine Later.trans_ ?_ (by assumption))⟩

set_option maxRecDepth 100000 in
theorem aluDoesAsSpecified_lifted (os : Os) (started : os.Started) (H : Type) (enc : TypeId × Value → H) :
    ReturnsInHanded {} Try.checked os 3 .any (Rows.aluDoesAsSpecifiedSpec.pre6 enc Try.prog Try.f3 Rows.aluDoesAsSpecifiedRow.domain false) (Rows.aluDoesAsSpecifiedSpec.post enc Try.prog Try.f3 false true false false) := by
  refine returnsInHanded_of_change (C := Try.checked) ownK started (by kernel_rfl) Try.func3
    (ChangeSpec.witness6 (enc := enc) (C := Try.checked) false ⟨#[], #[.int .i64 0, .int .u32 0, .int .u32 0], []⟩ 8 (by kernel_rfl) (by kernel_rfl) (by kernel_rfl) (by kernel_rfl)) ?_
  intro W base args ds gs before hval0 hW hcnd _
  have hval : ∀ (j : Nat) t v, Try.f3.params[j]? = some t → args[j]? = some v → Value.okWide Try.prog W .any base t v := hval0
  have hW' := hW
  obtain ⟨p, q, hA0, hV, rfl, hfz, hnd⟩ := hW
  have hA : DataW.TrodAll enc Try.prog W 0 (fun _ => true) true Try.f3.params.toList args.toList ds p := hA0
  rw [Try.params3] at hA hval
  obtain ⟨v0, vs0, d0, ds0, p0, q0, hargs, rfl, rfl, h0, r0⟩ := trodAll_cons hA
  obtain ⟨v1, vs1, d1, ds1, p1, q1, rfl, rfl, rfl, h1, r1⟩ := trodAll_cons r0
  obtain ⟨v2, vs2, d2, ds2, p2, q2, rfl, rfl, rfl, h2, r2⟩ := trodAll_cons r1
  obtain ⟨rfl, rfl, rfl⟩ := trodAll_nil r2
  obtain rfl : args = #[v0, v1, v2] := by cases args; simp_all
  obtain ⟨rfl, rfl⟩ := trodVars_none hV
  obtain ⟨a0, rfl, rfl, rfl, w0⟩ := open_int Try.underlying3 (hval 0 3 v0 rfl rfl) h0
  obtain ⟨a1, rfl, rfl, rfl, w1⟩ := open_int Try.underlying22 (hval 1 22 v1 rfl rfl) h1
  obtain ⟨a2, rfl, rfl, rfl, w2⟩ := open_int Try.underlying22 (hval 2 22 v2 rfl rfl) h2
  clear hA0 hval0
  simp only [List.append_nil] at hW'
  have b0 : -9223372036854775808 ≤ a0 ∧ a0 ≤ 9223372036854775807 := by
    have e1 : IntKind.i64.min = -9223372036854775808 := rfl
    have e2 : IntKind.i64.max = 9223372036854775807 := rfl
    simp only [Lit.wf, Bool.and_eq_true, decide_eq_true_eq] at w0
    omega
  have b1 : 0 ≤ a1 ∧ a1 ≤ 4294967295 := by
    have e1 : IntKind.u32.min = 0 := rfl
    have e2 : IntKind.u32.max = 4294967295 := rfl
    simp only [Lit.wf, Bool.and_eq_true, decide_eq_true_eq] at w1
    omega
  have b2 : 0 ≤ a2 ∧ a2 ≤ 4294967295 := by
    have e1 : IntKind.u32.min = 0 := rfl
    have e2 : IntKind.u32.max = 4294967295 := rfl
    simp only [Lit.wf, Bool.and_eq_true, decide_eq_true_eq] at w2
    omega
  refine (lawDoes_any b1.1 (by omega) b2.1 (by omega) a0 W).mono fun e W' ⟨he, hw⟩ => ?_
  subst he
  exact ⟨_, rfl, law_post laidK rfl (by kernel_rfl) (by kernel_rfl) Try.underlying4 (by kernel_rfl) hW' rfl hw⟩
set_option maxRecDepth 100000 in
/-- The statement. -/
theorem aluDoesAsSpecified_said : Rows.AluDoesAsSpecifiedSaid :=
  OpenClaim.holds_of_wide 3 Try.f3 rfl rfl rfl rfl rfl rfl rfl ⟨rfl, rfl, rfl, rfl, rfl⟩ rfl rfl rfl rfl rfl (by kernel_rfl) Try.func3 (by kernel_rfl)
    (of_decide_eq_true (by kernel_rfl)) (by unfold Func.isWrapper; first | (rw [if_pos (by decide +kernel)]; kernel_rfl) | (rw [if_neg (by decide +kernel)]; exact ⟨rfl, rfl⟩))
    (fun os started H enc _ => aluDoesAsSpecified_lifted os started H enc)
#print axioms aluDoesAsSpecified_said
end Go.Proofs.Ytonfdgbohmcpjaa
