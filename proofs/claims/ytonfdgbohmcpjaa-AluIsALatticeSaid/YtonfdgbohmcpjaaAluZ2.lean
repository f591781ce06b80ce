/-
  THE STATEMENT AluIsALattice: and, or and xor of words obey the laws of sets; it holds for every three words.
-/
import Derived.Test.YtonfdgbohmcpjaaAluJ
namespace Go.Proofs.Ytonfdgbohmcpjaa
open Go.RowKit Go.ChangeShapes Go.WideShapes Go.ChangeAt
theorem lat1 (x y z : BitVec 32) : x &&& (y &&& z) = x &&& y &&& z := (BitVec.and_assoc x y z).symm
theorem lat2 (x y z : BitVec 32) : x ||| (y ||| z) = x ||| y ||| z := (BitVec.or_assoc x y z).symm
theorem lat3 (x y z : BitVec 32) : (x &&& y) ||| (x &&& z) = x &&& (y ||| z) := by
    apply BitVec.eq_of_getLsbD_eq
    intro i hi
    simp only [BitVec.getLsbD_and, BitVec.getLsbD_or]
    cases x.getLsbD i <;> cases y.getLsbD i <;> cases z.getLsbD i <;> rfl
theorem lat4 (x y z : BitVec 32) : (x ||| y) &&& (x ||| z) = x ||| (y &&& z) := by
    apply BitVec.eq_of_getLsbD_eq
    intro i hi
    simp only [BitVec.getLsbD_and, BitVec.getLsbD_or]
    cases x.getLsbD i <;> cases y.getLsbD i <;> cases z.getLsbD i <;> rfl
theorem lat5 (x y : BitVec 32) : (x ^^^ 4294967295#32) ||| (y ^^^ 4294967295#32) = (x &&& y) ^^^ 4294967295#32 := by
  rw [show 4294967295#32 = BitVec.allOnes 32 from rfl, BitVec.xor_allOnes, BitVec.xor_allOnes, BitVec.xor_allOnes, BitVec.not_and]
theorem lat6 (x y : BitVec 32) : (x ^^^ y) ^^^ y = x := by
  rw [BitVec.xor_assoc, BitVec.xor_self, BitVec.xor_zero]
theorem lat7 (x y : BitVec 32) : (x ||| y) - (x &&& y) = x ^^^ y := by
  have h : (x ^^^ y) + (x &&& y) = x ||| y := by
    rw [BitVec.add_eq_or_of_and_eq_zero]
    · apply BitVec.eq_of_getLsbD_eq
      intro i hi
      simp only [BitVec.getLsbD_and, BitVec.getLsbD_or, BitVec.getLsbD_xor]
      cases x.getLsbD i <;> cases y.getLsbD i <;> rfl
    · apply BitVec.eq_of_getLsbD_eq
      intro i hi
      simp only [BitVec.getLsbD_and, BitVec.getLsbD_zero, BitVec.getLsbD_xor]
      cases x.getLsbD i <;> cases y.getLsbD i <;> rfl
  rw [← h, BitVec.add_sub_cancel]

set_option maxRecDepth 100000 in
set_option maxHeartbeats 4000000 in
theorem lawAluIsALattice_any (x y z : BitVec 32) (w : World) : Calls Try.prog 6 #[.int .u32 (Al.wI x), .int .u32 (Al.wI y), .int .u32 (Al.wI z)] w fun e w' => e = .returned (.bool true) ∧ Later w w' := by
  obtain ⟨a, ha⟩ : ∃ v, v = Al.wI (x) := ⟨_, rfl⟩
  obtain ⟨b, hb⟩ : ∃ v, v = Al.wI (y) := ⟨_, rfl⟩
  obtain ⟨c, hc⟩ : ∃ v, v = Al.wI (z) := ⟨_, rfl⟩
  obtain ⟨p, hp⟩ : ∃ v, v = Al.wI (x &&& y) := ⟨_, rfl⟩
  obtain ⟨q, hq⟩ : ∃ v, v = Al.wI (x ||| y) := ⟨_, rfl⟩
  obtain ⟨r, hr⟩ : ∃ v, v = Al.wI (x &&& y &&& z) := ⟨_, rfl⟩
  obtain ⟨s, hs⟩ : ∃ v, v = Al.wI (y &&& z) := ⟨_, rfl⟩
  obtain ⟨t, ht⟩ : ∃ v, v = Al.wI (x ||| y ||| z) := ⟨_, rfl⟩
  obtain ⟨u, hu⟩ : ∃ v, v = Al.wI (y ||| z) := ⟨_, rfl⟩
  obtain ⟨v, hv⟩ : ∃ v, v = Al.wI (x &&& (y ||| z)) := ⟨_, rfl⟩
  obtain ⟨l, hl⟩ : ∃ v, v = Al.wI (x &&& z) := ⟨_, rfl⟩
  obtain ⟨g, hg⟩ : ∃ v, v = Al.wI (x ||| (y &&& z)) := ⟨_, rfl⟩
  obtain ⟨k, hk⟩ : ∃ v, v = Al.wI (x ||| z) := ⟨_, rfl⟩
  obtain ⟨d, hd⟩ : ∃ v, v = Al.wI ((x &&& y) ^^^ 4294967295#32) := ⟨_, rfl⟩
  obtain ⟨i, hi⟩ : ∃ v, v = Al.wI (x ^^^ 4294967295#32) := ⟨_, rfl⟩
  obtain ⟨j, hj⟩ : ∃ v, v = Al.wI (y ^^^ 4294967295#32) := ⟨_, rfl⟩
  obtain ⟨o, ho⟩ : ∃ v, v = Al.wI (x ^^^ y) := ⟨_, rfl⟩
  have K0 := dk (bI := a) (cI := b) (rI := p) (s := x) (t := y) (r := x &&& y) 3 ha hb hp (rfl)
  have K1 := dk (bI := b) (cI := a) (rI := p) (s := y) (t := x) (r := x &&& y) 3 hb ha hp (BitVec.and_comm y x)
  have K2 := dk (bI := a) (cI := b) (rI := q) (s := x) (t := y) (r := x ||| y) 4 ha hb hq (rfl)
  have K3 := dk (bI := b) (cI := a) (rI := q) (s := y) (t := x) (r := x ||| y) 4 hb ha hq (BitVec.or_comm y x)
  have K4 := dk (bI := p) (cI := c) (rI := r) (s := x &&& y) (t := z) (r := x &&& y &&& z) 3 hp hc hr (rfl)
  have K5 := dk (bI := b) (cI := c) (rI := s) (s := y) (t := z) (r := y &&& z) 3 hb hc hs (rfl)
  have K6 := dk (bI := a) (cI := s) (rI := r) (s := x) (t := y &&& z) (r := x &&& y &&& z) 3 ha hs hr (lat1 x y z)
  have K7 := dk (bI := q) (cI := c) (rI := t) (s := x ||| y) (t := z) (r := x ||| y ||| z) 4 hq hc ht (rfl)
  have K8 := dk (bI := b) (cI := c) (rI := u) (s := y) (t := z) (r := y ||| z) 4 hb hc hu (rfl)
  have K9 := dk (bI := a) (cI := u) (rI := t) (s := x) (t := y ||| z) (r := x ||| y ||| z) 4 ha hu ht (lat2 x y z)
  have K10 := dk (bI := a) (cI := u) (rI := v) (s := x) (t := y ||| z) (r := x &&& (y ||| z)) 3 ha hu hv (rfl)
  have K11 := dk (bI := a) (cI := c) (rI := l) (s := x) (t := z) (r := x &&& z) 3 ha hc hl (rfl)
  have K12 := dk (bI := p) (cI := l) (rI := v) (s := x &&& y) (t := x &&& z) (r := x &&& (y ||| z)) 4 hp hl hv (lat3 x y z)
  have K13 := dk (bI := a) (cI := s) (rI := g) (s := x) (t := y &&& z) (r := x ||| (y &&& z)) 4 ha hs hg (rfl)
  have K14 := dk (bI := a) (cI := c) (rI := k) (s := x) (t := z) (r := x ||| z) 4 ha hc hk (rfl)
  have K15 := dk (bI := q) (cI := k) (rI := g) (s := x ||| y) (t := x ||| z) (r := x ||| (y &&& z)) 3 hq hk hg (lat4 x y z)
  have K16 := dk (bI := p) (cI := 4294967295) (rI := d) (s := x &&& y) (t := 4294967295#32) (r := (x &&& y) ^^^ 4294967295#32) 5 hp rfl hd (rfl)
  have K17 := dk (bI := a) (cI := 4294967295) (rI := i) (s := x) (t := 4294967295#32) (r := x ^^^ 4294967295#32) 5 ha rfl hi (rfl)
  have K18 := dk (bI := b) (cI := 4294967295) (rI := j) (s := y) (t := 4294967295#32) (r := y ^^^ 4294967295#32) 5 hb rfl hj (rfl)
  have K19 := dk (bI := i) (cI := j) (rI := d) (s := x ^^^ 4294967295#32) (t := y ^^^ 4294967295#32) (r := (x &&& y) ^^^ 4294967295#32) 4 hi hj hd (lat5 x y)
  have K20 := dk (bI := a) (cI := b) (rI := o) (s := x) (t := y) (r := x ^^^ y) 5 ha hb ho (rfl)
  have K21 := dk (bI := o) (cI := b) (rI := a) (s := x ^^^ y) (t := y) (r := x) 5 ho hb ha (lat6 x y)
  have K22 := dk (bI := q) (cI := p) (rI := o) (s := x ||| y) (t := x &&& y) (r := x ^^^ y) 2 hq hp ho (lat7 x y)
  rw [← ha, ← hb, ← hc]
  clear ha hb hc hp hq hr hs ht hu hv hl hg hk hd hi hj ho
  have HSN := Lib.hid sanity_any
  go_enter Try.func6, Try.ntmps6
  go_wp2_with (first
    | (go_at_call 23; (first | (with_reducible refine (K0.out _).mono ?_) | (with_reducible refine (K1.out _).mono ?_) | (with_reducible refine (K2.out _).mono ?_) | (with_reducible refine (K3.out _).mono ?_) | (with_reducible refine (K4.out _).mono ?_) | (with_reducible refine (K5.out _).mono ?_) | (with_reducible refine (K6.out _).mono ?_) | (with_reducible refine (K7.out _).mono ?_) | (with_reducible refine (K8.out _).mono ?_) | (with_reducible refine (K9.out _).mono ?_) | (with_reducible refine (K10.out _).mono ?_) | (with_reducible refine (K11.out _).mono ?_) | (with_reducible refine (K12.out _).mono ?_) | (with_reducible refine (K13.out _).mono ?_) | (with_reducible refine (K14.out _).mono ?_) | (with_reducible refine (K15.out _).mono ?_) | (with_reducible refine (K16.out _).mono ?_) | (with_reducible refine (K17.out _).mono ?_) | (with_reducible refine (K18.out _).mono ?_) | (with_reducible refine (K19.out _).mono ?_) | (with_reducible refine (K20.out _).mono ?_) | (with_reducible refine (K21.out _).mono ?_) | (with_reducible refine (K22.out _).mono ?_)); rintro e w1 ⟨rfl, l1⟩)
    | (go_at_call 12; refine (HSN.out _).mono ?_; rintro e ws ⟨rfl, ls⟩))
  go_ret
  exact ⟨rfl, by repeat (first | assumption | refine Later.trans_ ?_ (by assumption))⟩

set_option maxRecDepth 100000 in
theorem aluIsALattice_lifted (os : Os) (started : os.Started) (H : Type) (enc : TypeId × Value → H) :
    ReturnsInHanded {} Try.checked os 6 .any (Rows.aluIsALatticeSpec.pre6 enc Try.prog Try.f6 Rows.aluIsALatticeRow.domain false) (Rows.aluIsALatticeSpec.post enc Try.prog Try.f6 false true false false) := by
  refine returnsInHanded_of_change (C := Try.checked) ownK started (by kernel_rfl) Try.func6
    (ChangeSpec.witness6 (enc := enc) (C := Try.checked) false ⟨#[], #[.int .u32 0, .int .u32 0, .int .u32 0], []⟩ 8 (by kernel_rfl) (by kernel_rfl) (by kernel_rfl) (by kernel_rfl)) ?_
  intro W base args ds gs before hval0 hW hcnd _
  have hval : ∀ (j : Nat) t v, Try.f6.params[j]? = some t → args[j]? = some v → Value.okWide Try.prog W .any base t v := hval0
  have hW' := hW
  obtain ⟨p, q, hA0, hV, rfl, hfz, hnd⟩ := hW
  have hA : DataW.TrodAll enc Try.prog W 0 (fun _ => true) true Try.f6.params.toList args.toList ds p := hA0
  rw [Try.params6] at hA hval
  obtain ⟨v0, vs0, d0, ds0, p0, q0, hargs, rfl, rfl, h0, r0⟩ := trodAll_cons hA
  obtain ⟨v1, vs1, d1, ds1, p1, q1, rfl, rfl, rfl, h1, r1⟩ := trodAll_cons r0
  obtain ⟨v2, vs2, d2, ds2, p2, q2, rfl, rfl, rfl, h2, r2⟩ := trodAll_cons r1
  obtain ⟨rfl, rfl, rfl⟩ := trodAll_nil r2
  obtain rfl : args = #[v0, v1, v2] := by cases args; simp_all
  obtain ⟨rfl, rfl⟩ := trodVars_none hV
  obtain ⟨a0, rfl, rfl, rfl, w0⟩ := open_int Try.underlying22 (hval 0 22 v0 rfl rfl) h0
  obtain ⟨a1, rfl, rfl, rfl, w1⟩ := open_int Try.underlying22 (hval 1 22 v1 rfl rfl) h1
  obtain ⟨a2, rfl, rfl, rfl, w2⟩ := open_int Try.underlying22 (hval 2 22 v2 rfl rfl) h2
  clear hA0 hval0
  simp only [List.append_nil] at hW'
  have b0 : 0 ≤ a0 ∧ a0 ≤ 4294967295 := by
    have e1 : IntKind.u32.min = 0 := rfl
    have e2 : IntKind.u32.max = 4294967295 := rfl
    simp only [Lit.wf, Bool.and_eq_true, decide_eq_true_eq] at w0
    omega
  have b1 : 0 ≤ a1 ∧ a1 ≤ 4294967295 := by
    have e1 : IntKind.u32.min = 0 := rfl
    have e2 : IntKind.u32.max = 4294967295 := rfl
    simp only [Lit.wf, Bool.and_eq_true, decide_eq_true_eq] at w1
    omega
  have b2 : 0 ≤ a2 ∧ a2 ≤ 4294967295 := by
    have e1 : IntKind.u32.min = 0 := rfl
    have e2 : IntKind.u32.max = 4294967295 := rfl
    simp only [Lit.wf, Bool.and_eq_true, decide_eq_true_eq] at w2
    omega
  obtain ⟨x, rfl⟩ := Al.is_wI b0.1 (by omega)
  obtain ⟨y, rfl⟩ := Al.is_wI b1.1 (by omega)
  obtain ⟨z, rfl⟩ := Al.is_wI b2.1 (by omega)
  refine (lawAluIsALattice_any x y z W).mono fun e W' ⟨he, hw⟩ => ?_
  subst he
  exact ⟨_, rfl, law_post laidK rfl (by kernel_rfl) (by kernel_rfl) Try.underlying4 (by kernel_rfl) hW' rfl hw⟩
set_option maxRecDepth 100000 in
/-- The statement. -/
theorem aluIsALattice_said : Rows.AluIsALatticeSaid :=
  OpenClaim.holds_of_wide 6 Try.f6 rfl rfl rfl rfl rfl rfl rfl ⟨rfl, rfl, rfl, rfl, rfl⟩ rfl rfl rfl rfl rfl (by kernel_rfl) Try.func6 (by kernel_rfl)
    (of_decide_eq_true (by kernel_rfl)) (by unfold Func.isWrapper; first | (rw [if_pos (by decide +kernel)]; kernel_rfl) | (rw [if_neg (by decide +kernel)]; exact ⟨rfl, rfl⟩))
    (fun os started H enc _ => aluIsALattice_lifted os started H enc)
#print axioms aluIsALattice_said
end Go.Proofs.Ytonfdgbohmcpjaa
