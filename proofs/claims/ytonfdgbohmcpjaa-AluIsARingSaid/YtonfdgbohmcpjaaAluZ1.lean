/-
  THE STATEMENT AluIsARing: addition and multiplication of words are a ring; it holds for every three words.
-/
import Derived.Test.YtonfdgbohmcpjaaAluJ
namespace Go.Proofs.Ytonfdgbohmcpjaa
open Go.RowKit Go.ChangeShapes Go.WideShapes Go.ChangeAt
theorem ring_neg (x : BitVec 32) : x + (0#32 - x) = 0#32 := by
  apply BitVec.eq_of_toNat_eq
  rw [BitVec.toNat_add, BitVec.toNat_sub]
  have := x.isLt
  show (x.toNat + (2 ^ 32 - x.toNat + 0) % 2 ^ 32) % 2 ^ 32 = 0
  omega

set_option maxRecDepth 100000 in
set_option maxHeartbeats 4000000 in
theorem lawAluIsARing_any (x y z : BitVec 32) (w : World) : Calls Try.prog 5 #[.int .u32 (Al.wI x), .int .u32 (Al.wI y), .int .u32 (Al.wI z)] w fun e w' => e = .returned (.bool true) ∧ Later w w' := by
  obtain ⟨a, ha⟩ : ∃ v, v = Al.wI (x) := ⟨_, rfl⟩
  obtain ⟨b, hb⟩ : ∃ v, v = Al.wI (y) := ⟨_, rfl⟩
  obtain ⟨c, hc⟩ : ∃ v, v = Al.wI (z) := ⟨_, rfl⟩
  obtain ⟨s, hs⟩ : ∃ v, v = Al.wI (x + y) := ⟨_, rfl⟩
  obtain ⟨t, ht⟩ : ∃ v, v = Al.wI (x + y + z) := ⟨_, rfl⟩
  obtain ⟨u, hu⟩ : ∃ v, v = Al.wI (y + z) := ⟨_, rfl⟩
  obtain ⟨n, hn⟩ : ∃ v, v = Al.wI (0#32 - x) := ⟨_, rfl⟩
  obtain ⟨p, hp⟩ : ∃ v, v = Al.wI (x * y) := ⟨_, rfl⟩
  obtain ⟨q, hq⟩ : ∃ v, v = Al.wI (x * y * z) := ⟨_, rfl⟩
  obtain ⟨m, hm⟩ : ∃ v, v = Al.wI (y * z) := ⟨_, rfl⟩
  obtain ⟨o, ho⟩ : ∃ v, v = Al.wI (x * z) := ⟨_, rfl⟩
  obtain ⟨r, hr⟩ : ∃ v, v = Al.wI (x * (y + z)) := ⟨_, rfl⟩
  have K0 := dk (bI := a) (cI := b) (rI := s) (s := x) (t := y) (r := x + y) 1 ha hb hs (rfl)
  have K1 := dk (bI := b) (cI := a) (rI := s) (s := y) (t := x) (r := x + y) 1 hb ha hs (BitVec.add_comm y x)
  have K2 := dk (bI := s) (cI := c) (rI := t) (s := x + y) (t := z) (r := x + y + z) 1 hs hc ht (rfl)
  have K3 := dk (bI := b) (cI := c) (rI := u) (s := y) (t := z) (r := y + z) 1 hb hc hu (rfl)
  have K4 := dk (bI := a) (cI := u) (rI := t) (s := x) (t := y + z) (r := x + y + z) 1 ha hu ht ((BitVec.add_assoc x y z).symm)
  have K5 := dk (bI := s) (cI := b) (rI := a) (s := x + y) (t := y) (r := x) 2 hs hb ha (BitVec.add_sub_cancel x y)
  have K6 := dk (bI := 0) (cI := a) (rI := n) (s := 0#32) (t := x) (r := 0#32 - x) 2 rfl ha hn (rfl)
  have K7 := dk (bI := a) (cI := n) (rI := 0) (s := x) (t := 0#32 - x) (r := 0#32) 1 ha hn rfl (ring_neg x)
  have K8 := dk (bI := a) (cI := b) (rI := p) (s := x) (t := y) (r := x * y) 8 ha hb hp (rfl)
  have K9 := dk (bI := b) (cI := a) (rI := p) (s := y) (t := x) (r := x * y) 8 hb ha hp (BitVec.mul_comm y x)
  have K10 := dk (bI := p) (cI := c) (rI := q) (s := x * y) (t := z) (r := x * y * z) 8 hp hc hq (rfl)
  have K11 := dk (bI := b) (cI := c) (rI := m) (s := y) (t := z) (r := y * z) 8 hb hc hm (rfl)
  have K12 := dk (bI := a) (cI := m) (rI := q) (s := x) (t := y * z) (r := x * y * z) 8 ha hm hq ((BitVec.mul_assoc x y z).symm)
  have K13 := dk (bI := a) (cI := 1) (rI := a) (s := x) (t := 1#32) (r := x) 8 ha rfl ha (BitVec.mul_one x)
  have K14 := dk (bI := a) (cI := u) (rI := r) (s := x) (t := y + z) (r := x * (y + z)) 8 ha hu hr (rfl)
  have K15 := dk (bI := a) (cI := c) (rI := o) (s := x) (t := z) (r := x * z) 8 ha hc ho (rfl)
  have K16 := dk (bI := p) (cI := o) (rI := r) (s := x * y) (t := x * z) (r := x * (y + z)) 1 hp ho hr (BitVec.mul_add.symm)
  rw [← ha, ← hb, ← hc]
  clear ha hb hc hs ht hu hn hp hq hm ho hr
  have HSN := Lib.hid sanity_any
  go_enter Try.func5, Try.ntmps5
  go_wp2_with (first
    | (go_at_call 23; (first | (with_reducible refine (K0.out _).mono ?_) | (with_reducible refine (K1.out _).mono ?_) | (with_reducible refine (K2.out _).mono ?_) | (with_reducible refine (K3.out _).mono ?_) | (with_reducible refine (K4.out _).mono ?_) | (with_reducible refine (K5.out _).mono ?_) | (with_reducible refine (K6.out _).mono ?_) | (with_reducible refine (K7.out _).mono ?_) | (with_reducible refine (K8.out _).mono ?_) | (with_reducible refine (K9.out _).mono ?_) | (with_reducible refine (K10.out _).mono ?_) | (with_reducible refine (K11.out _).mono ?_) | (with_reducible refine (K12.out _).mono ?_) | (with_reducible refine (K13.out _).mono ?_) | (with_reducible refine (K14.out _).mono ?_) | (with_reducible refine (K15.out _).mono ?_) | (with_reducible refine (K16.out _).mono ?_)); rintro e w1 ⟨rfl, l1⟩)
    | (go_at_call 12; refine (HSN.out _).mono ?_; rintro e ws ⟨rfl, ls⟩))
  go_ret
  exact ⟨rfl, by repeat (first | assumption | refine Later.trans_ ?_ (by assumption))⟩

set_option maxRecDepth 100000 in
theorem aluIsARing_lifted (os : Os) (started : os.Started) (H : Type) (enc : TypeId × Value → H) :
    ReturnsInHanded {} Try.checked os 5 .any (Rows.aluIsARingSpec.pre6 enc Try.prog Try.f5 Rows.aluIsARingRow.domain false) (Rows.aluIsARingSpec.post enc Try.prog Try.f5 false true false false) := by
  refine returnsInHanded_of_change (C := Try.checked) ownK started (by kernel_rfl) Try.func5
    (ChangeSpec.witness6 (enc := enc) (C := Try.checked) false ⟨#[], #[.int .u32 0, .int .u32 0, .int .u32 0], []⟩ 8 (by kernel_rfl) (by kernel_rfl) (by kernel_rfl) (by kernel_rfl)) ?_
  intro W base args ds gs before hval0 hW hcnd _
  have hval : ∀ (j : Nat) t v, Try.f5.params[j]? = some t → args[j]? = some v → Value.okWide Try.prog W .any base t v := hval0
  have hW' := hW
  obtain ⟨p, q, hA0, hV, rfl, hfz, hnd⟩ := hW
  have hA : DataW.TrodAll enc Try.prog W 0 (fun _ => true) true Try.f5.params.toList args.toList ds p := hA0
  rw [Try.params5] at hA hval
  obtain ⟨v0, vs0, d0, ds0, p0, q0, hargs, rfl, rfl, h0, r0⟩ := trodAll_cons hA
  obtain ⟨v1, vs1, d1, ds1, p1, q1, rfl, rfl, rfl, h1, r1⟩ := trodAll_cons r0
  obtain ⟨v2, vs2, d2, ds2, p2, q2, rfl, rfl, rfl, h2, r2⟩ := trodAll_cons r1
  obtain ⟨rfl, rfl, rfl⟩ := trodAll_nil r2
  obtain rfl : args = #[v0, v1, v2] := by cases args; simp_all
  obtain ⟨rfl, rfl⟩ := trodVars_none hV
  obtain ⟨a0, rfl, rfl, rfl, w0⟩ := open_int Try.underlying22 (hval 0 22 v0 rfl rfl) h0
  obtain ⟨a1, rfl, rfl, rfl, w1⟩ := open_int Try.underlying22 (hval 1 22 v1 rfl rfl) h1
  obtain ⟨a2, rfl, rfl, rfl, w2⟩ := open_int Try.underlying22 (hval 2 22 v2 rfl rfl) h2
  clear hA0 hval0
  simp only [List.append_nil] at hW'
  have b0 : 0 ≤ a0 ∧ a0 ≤ 4294967295 := by
    have e1 : IntKind.u32.min = 0 := rfl
    have e2 : IntKind.u32.max = 4294967295 := rfl
    simp only [Lit.wf, Bool.and_eq_true, decide_eq_true_eq] at w0
    omega
  have b1 : 0 ≤ a1 ∧ a1 ≤ 4294967295 := by
    have e1 : IntKind.u32.min = 0 := rfl
    have e2 : IntKind.u32.max = 4294967295 := rfl
    simp only [Lit.wf, Bool.and_eq_true, decide_eq_true_eq] at w1
    omega
  have b2 : 0 ≤ a2 ∧ a2 ≤ 4294967295 := by
    have e1 : IntKind.u32.min = 0 := rfl
    have e2 : IntKind.u32.max = 4294967295 := rfl
    simp only [Lit.wf, Bool.and_eq_true, decide_eq_true_eq] at w2
    omega
  obtain ⟨x, rfl⟩ := Al.is_wI b0.1 (by omega)
  obtain ⟨y, rfl⟩ := Al.is_wI b1.1 (by omega)
  obtain ⟨z, rfl⟩ := Al.is_wI b2.1 (by omega)
  refine (lawAluIsARing_any x y z W).mono fun e W' ⟨he, hw⟩ => ?_
  subst he
  exact ⟨_, rfl, law_post laidK rfl (by kernel_rfl) (by kernel_rfl) Try.underlying4 (by kernel_rfl) hW' rfl hw⟩
set_option maxRecDepth 100000 in
/-- The statement. -/
theorem aluIsARing_said : Rows.AluIsARingSaid :=
  OpenClaim.holds_of_wide 5 Try.f5 rfl rfl rfl rfl rfl rfl rfl ⟨rfl, rfl, rfl, rfl, rfl⟩ rfl rfl rfl rfl rfl (by kernel_rfl) Try.func5 (by kernel_rfl)
    (of_decide_eq_true (by kernel_rfl)) (by unfold Func.isWrapper; first | (rw [if_pos (by decide +kernel)]; kernel_rfl) | (rw [if_neg (by decide +kernel)]; exact ⟨rfl, rfl⟩))
    (fun os started H enc _ => aluIsARing_lifted os started H enc)
#print axioms aluIsARing_said
end Go.Proofs.Ytonfdgbohmcpjaa
