/-
  THE STATEMENT AluReadsAsSpecified: Signed, Byte, SetByte and Extend answer as the specification does, for every word, place, byte and number of bits.
-/
import Derived.Test.YtonfdgbohmcpjaaAluJ
import Derived.Test.YtonfdgbohmcpjaaAluH
namespace Go.Proofs.Ytonfdgbohmcpjaa
open Go.RowKit Go.ChangeShapes Go.WideShapes Go.ChangeAt

set_option maxRecDepth 100000 in
set_option maxHeartbeats 1000000 in
theorem lawReads_any {x y : Int} (hx0 : 0 ≤ x) (hx1 : x < 4294967296) (hy0 : 0 ≤ y) (hy1 : y < 256) (n k : Int) (w : World) :
    Calls Try.prog 4 #[.int .u32 x, .int .i64 n, .int .i64 k, .int .u8 y] w fun e w' => e = .returned (.bool true) ∧ Later w w' := by
  have H1 := Lib.hid fun w => signed_any hx0 hx1 w
  have H2 := Lib.hid fun w => rsigned_any hx0 hx1 w
  have H3 := Lib.hid fun w => byte_any x k w
  have H4 := Lib.hid fun w => rbyte_any hx0 hx1 k w
  have H5 := Lib.hid fun w => set_any hx0 hx1 w k y hy0 hy1
  have H6 := Lib.hid fun w => rset_any hx0 hx1 k y hy0 hy1 w
  obtain ⟨s, hs⟩ : ∃ s, s = Al.S x := ⟨_, rfl⟩
  obtain ⟨u, hu⟩ : ∃ u, u = Al.BY x (8 * (k % 4)) := ⟨_, rfl⟩
  obtain ⟨v, hv⟩ : ∃ v, v = Al.SB x (8 * (k % 4)) y := ⟨_, rfl⟩
  rw [← hs] at H1 H2
  rw [← hu] at H3 H4
  rw [← hv] at H5 H6
  clear hs hu hv
  have HSN := Lib.hid sanity_any
  by_cases hn0 : 1 ≤ n
  · by_cases hn1 : n ≤ 32
    · have H7 := Lib.hid fun w => extend_any w hx0 hx1 n hn0 hn1
      have H8 : Hid (∀ w, Calls Try.prog 16 #[.int .u32 x, .int .i64 n] w fun e w' => e = .returned (.int .u32 (Al.X n x)) ∧ w = w') := by
        obtain ⟨m, rfl⟩ := Int.eq_ofNat_of_zero_le (show 0 ≤ n by omega)
        obtain ⟨z, rfl⟩ := Int.eq_ofNat_of_zero_le hx0
        exact Lib.hid fun w => rextend_any m z (by omega) (by omega) (by omega) w
      obtain ⟨q, hq⟩ : ∃ q, q = Al.X n x := ⟨_, rfl⟩
      rw [← hq] at H7 H8
      clear hq
      go_enter Try.func4, Try.ntmps4
      go_wp2_with (first
        | (go_at_call 15; refine (H7.out _).mono ?_; rintro e w3 ⟨rfl, rfl⟩)
        | (go_at_call 16; refine (H8.out _).mono ?_; rintro e w3 ⟨rfl, rfl⟩)
        | (go_at_call 12; refine (HSN.out _).mono ?_; rintro e ws ⟨rfl, ls⟩)
        | (go_at_call 17; refine (H1.out _).mono ?_; rintro e w3 ⟨rfl, rfl⟩)
        | (go_at_call 18; refine (H2.out _).mono ?_; rintro e w3 ⟨rfl, rfl⟩)
        | (go_at_call 19; refine (H3.out _).mono ?_; rintro e w3 ⟨rfl, rfl⟩)
        | (go_at_call 20; refine (H4.out _).mono ?_; rintro e w3 ⟨rfl, rfl⟩)
        | (go_at_call 21; refine (H5.out _).mono ?_; rintro e w3 ⟨rfl, l3⟩)
        | (go_at_call 22; refine (H6.out _).mono ?_; rintro e w3 ⟨rfl, rfl⟩))
      go_ret
      exact ⟨rfl, by repeat (first | assumption | refine Later.trans_ ?_ (by assumption))⟩
    · have d1 : decide (n ≤ 32) = false := decide_eq_false hn1
      go_enter Try.func4, Try.ntmps4
      go_wp2_with (first
        | (go_at_call 12; refine (HSN.out _).mono ?_; rintro e ws ⟨rfl, ls⟩)
        | (go_at_call 17; refine (H1.out _).mono ?_; rintro e w3 ⟨rfl, rfl⟩)
        | (go_at_call 18; refine (H2.out _).mono ?_; rintro e w3 ⟨rfl, rfl⟩)
        | (go_at_call 19; refine (H3.out _).mono ?_; rintro e w3 ⟨rfl, rfl⟩)
        | (go_at_call 20; refine (H4.out _).mono ?_; rintro e w3 ⟨rfl, rfl⟩)
        | (go_at_call 21; refine (H5.out _).mono ?_; rintro e w3 ⟨rfl, l3⟩)
        | (go_at_call 22; refine (H6.out _).mono ?_; rintro e w3 ⟨rfl, rfl⟩))
      go_ret
      exact ⟨rfl, by repeat (first | assumption | refine Later.trans_ ?_ (by assumption))⟩
  · have d0 : decide (1 ≤ n) = false := decide_eq_false hn0
    go_enter Try.func4, Try.ntmps4
    go_wp2_with (first
      | (go_at_call 12; refine (HSN.out _).mono ?_; rintro e ws ⟨rfl, ls⟩)
      | (go_at_call 17; refine (H1.out _).mono ?_; rintro e w3 ⟨rfl, rfl⟩)
      | (go_at_call 18; refine (H2.out _).mono ?_; rintro e w3 ⟨rfl, rfl⟩)
      | (go_at_call 19; refine (H3.out _).mono ?_; rintro e w3 ⟨rfl, rfl⟩)
      | (go_at_call 20; refine (H4.out _).mono ?_; rintro e w3 ⟨rfl, rfl⟩)
      | (go_at_call 21; refine (H5.out _).mono ?_; rintro e w3 ⟨rfl, l3⟩)
      | (go_at_call 22; refine (H6.out _).mono ?_; rintro e w3 ⟨rfl, rfl⟩))
    go_ret
    exact ⟨rfl, by repeat (first | assumption | refine Later.trans_ ?_ (by assumption))⟩

set_option maxRecDepth 100000 in
theorem aluReadsAsSpecified_lifted (os : Os) (started : os.Started) (H : Type) (enc : TypeId × Value → H) :
    ReturnsInHanded {} Try.checked os 4 .any (Rows.aluReadsAsSpecifiedSpec.pre6 enc Try.prog Try.f4 Rows.aluReadsAsSpecifiedRow.domain false) (Rows.aluReadsAsSpecifiedSpec.post enc Try.prog Try.f4 false true false false) := by
  refine returnsInHanded_of_change (C := Try.checked) ownK started (by kernel_rfl) Try.func4
    (ChangeSpec.witness6 (enc := enc) (C := Try.checked) false ⟨#[], #[.int .u32 0, .int .i64 0, .int .i64 0, .int .u8 0], []⟩ 8 (by kernel_rfl) (by kernel_rfl) (by kernel_rfl) (by kernel_rfl)) ?_
  intro W base args ds gs before hval0 hW hcnd _
  have hval : ∀ (j : Nat) t v, Try.f4.params[j]? = some t → args[j]? = some v → Value.okWide Try.prog W .any base t v := hval0
  have hW' := hW
  obtain ⟨p, q, hA0, hV, rfl, hfz, hnd⟩ := hW
  have hA : DataW.TrodAll enc Try.prog W 0 (fun _ => true) true Try.f4.params.toList args.toList ds p := hA0
  rw [Try.params4] at hA hval
  obtain ⟨v0, vs0, d0, ds0, p0, q0, hargs, rfl, rfl, h0, r0⟩ := trodAll_cons hA
  obtain ⟨v1, vs1, d1, ds1, p1, q1, rfl, rfl, rfl, h1, r1⟩ := trodAll_cons r0
  obtain ⟨v2, vs2, d2, ds2, p2, q2, rfl, rfl, rfl, h2, r2⟩ := trodAll_cons r1
  obtain ⟨v3, vs3, d3, ds3, p3, q3, rfl, rfl, rfl, h3, r3⟩ := trodAll_cons r2
  obtain ⟨rfl, rfl, rfl⟩ := trodAll_nil r3
  obtain rfl : args = #[v0, v1, v2, v3] := by cases args; simp_all
  obtain ⟨rfl, rfl⟩ := trodVars_none hV
  obtain ⟨a0, rfl, rfl, rfl, w0⟩ := open_int Try.underlying22 (hval 0 22 v0 rfl rfl) h0
  obtain ⟨a1, rfl, rfl, rfl, w1⟩ := open_int Try.underlying3 (hval 1 3 v1 rfl rfl) h1
  obtain ⟨a2, rfl, rfl, rfl, w2⟩ := open_int Try.underlying3 (hval 2 3 v2 rfl rfl) h2
  obtain ⟨a3, rfl, rfl, rfl, w3⟩ := open_int Try.underlying5 (hval 3 5 v3 rfl rfl) h3
  clear hA0 hval0
  simp only [List.append_nil] at hW'
  have b0 : 0 ≤ a0 ∧ a0 ≤ 4294967295 := by
    have e1 : IntKind.u32.min = 0 := rfl
    have e2 : IntKind.u32.max = 4294967295 := rfl
    simp only [Lit.wf, Bool.and_eq_true, decide_eq_true_eq] at w0
    omega
  have b1 : -9223372036854775808 ≤ a1 ∧ a1 ≤ 9223372036854775807 := by
    have e1 : IntKind.i64.min = -9223372036854775808 := rfl
    have e2 : IntKind.i64.max = 9223372036854775807 := rfl
    simp only [Lit.wf, Bool.and_eq_true, decide_eq_true_eq] at w1
    omega
  have b2 : -9223372036854775808 ≤ a2 ∧ a2 ≤ 9223372036854775807 := by
    have e1 : IntKind.i64.min = -9223372036854775808 := rfl
    have e2 : IntKind.i64.max = 9223372036854775807 := rfl
    simp only [Lit.wf, Bool.and_eq_true, decide_eq_true_eq] at w2
    omega
  have b3 : 0 ≤ a3 ∧ a3 ≤ 255 := by
    have e1 : IntKind.u8.min = 0 := rfl
    have e2 : IntKind.u8.max = 255 := rfl
    simp only [Lit.wf, Bool.and_eq_true, decide_eq_true_eq] at w3
    omega
  refine (lawReads_any b0.1 (by omega) b3.1 (by omega) a1 a2 W).mono fun e W' ⟨he, hw⟩ => ?_
  subst he
  exact ⟨_, rfl, law_post laidK rfl (by kernel_rfl) (by kernel_rfl) Try.underlying4 (by kernel_rfl) hW' rfl hw⟩
set_option maxRecDepth 100000 in
/-- The statement. -/
theorem aluReadsAsSpecified_said : Rows.AluReadsAsSpecifiedSaid :=
  OpenClaim.holds_of_wide 4 Try.f4 rfl rfl rfl rfl rfl rfl rfl ⟨rfl, rfl, rfl, rfl, rfl⟩ rfl rfl rfl rfl rfl (by kernel_rfl) Try.func4 (by kernel_rfl)
    (of_decide_eq_true (by kernel_rfl)) (by unfold Func.isWrapper; first | (rw [if_pos (by decide +kernel)]; kernel_rfl) | (rw [if_neg (by decide +kernel)]; exact ⟨rfl, rfl⟩))
    (fun os started H enc _ => aluReadsAsSpecified_lifted os started H enc)
#print axioms aluReadsAsSpecified_said
end Go.Proofs.Ytonfdgbohmcpjaa
