/-
  THE STATEMENT AluDivides: quotient and remainder make up a word, and by powers of 2 they are shifts and and; it holds for every two words and number of places.
-/
import Derived.Test.YtonfdgbohmcpjaaAluJ
namespace Go.Proofs.Ytonfdgbohmcpjaa
open Go.RowKit Go.ChangeShapes Go.WideShapes Go.ChangeAt

section
variable (x y : BitVec 32)
theorem dv_le : ((x / y) * y).toNat = x.toNat / y.toNat * y.toNat := by
  rw [BitVec.toNat_mul, BitVec.toNat_udiv]
  exact Nat.mod_eq_of_lt (Nat.lt_of_le_of_lt (Nat.div_mul_le_self _ _) x.isLt)
theorem dv_add : (x / y) * y + x % y = x := by
  apply BitVec.eq_of_toNat_eq
  rw [BitVec.toNat_add, dv_le x y, BitVec.toNat_umod]
  have h1 := Nat.div_add_mod x.toNat y.toNat
  rw [Nat.mul_comm] at h1
  rw [h1]
  exact Nat.mod_eq_of_lt x.isLt
theorem dv_pos (h : y ≠ 0#32) : 0 < y.toNat := by
  rcases Nat.eq_zero_or_pos y.toNat with e | e
  · exact absurd (BitVec.eq_of_toNat_eq e) h
  · exact e
theorem dv_rem (h : y ≠ 0#32) : Al.tkb 31 (x % y) y = true := by
  show decide ((x % y).toNat < y.toNat) = true
  rw [BitVec.toNat_umod]
  exact decide_eq_true (Nat.mod_lt _ (dv_pos y h))
theorem dv_not : Al.tkb 31 x ((x / y) * y) = false := by
  show decide (x.toNat < ((x / y) * y).toNat) = false
  rw [dv_le x y]
  exact decide_eq_false (by have := Nat.div_mul_le_self x.toNat y.toNat; omega)
theorem dv_quo (h : y ≠ 0#32) : Al.dob 9 x y = x / y := by
  show (if y = 0 then 4294967295#32 else x / y) = _
  exact if_neg h
theorem dv_mod (h : y ≠ 0#32) : Al.dob 10 x y = x % y := by
  show (if y = 0 then x else x % y) = _
  exact if_neg h
end
section
variable (k : Nat) (hk : k < 32)
include hk
theorem pw_one : (1#32 <<< k).toNat = 2 ^ k := by
  rw [BitVec.toNat_shiftLeft, Nat.shiftLeft_eq]
  show 1 * 2 ^ k % 2 ^ 32 = _
  rw [Nat.one_mul]
  exact Nat.mod_eq_of_lt (Nat.pow_lt_pow_right (by omega) hk)
theorem pw_ne : (1#32 <<< k) ≠ 0#32 := fun e => by
  have := congrArg BitVec.toNat e
  rw [pw_one k hk] at this
  have h2 := Nat.two_pow_pos k
  rw [this] at h2
  exact absurd h2 (by decide)
theorem pw_mod : (BitVec.ofNat 32 k).toNat % 32 = k := by
  rw [BitVec.toNat_ofNat]; omega
theorem pw_mod2 : (BitVec.ofNat 32 (k + 32)).toNat % 32 = k := by
  rw [BitVec.toNat_ofNat]; omega
theorem pw_shl (x : BitVec 32) : Al.dob 6 x (BitVec.ofNat 32 k) = x <<< k := by
  show x <<< ((BitVec.ofNat 32 k).toNat % 32) = _
  rw [pw_mod k hk]
theorem pw_shl2 (x : BitVec 32) : Al.dob 6 x (BitVec.ofNat 32 (k + 32)) = x <<< k := by
  show x <<< ((BitVec.ofNat 32 (k + 32)).toNat % 32) = _
  rw [pw_mod2 k hk]
theorem pw_shr (x : BitVec 32) : Al.dob 7 x (BitVec.ofNat 32 k) = x >>> k := by
  show x >>> ((BitVec.ofNat 32 k).toNat % 32) = _
  rw [pw_mod k hk]
theorem pw_quo (x : BitVec 32) : Al.dob 9 x (1#32 <<< k) = x >>> k := by
  rw [dv_quo x _ (pw_ne k hk)]
  apply BitVec.eq_of_toNat_eq
  rw [BitVec.toNat_udiv, pw_one k hk, BitVec.toNat_ushiftRight, Nat.shiftRight_eq_div_pow]
theorem pw_and (x : BitVec 32) : x &&& ((1#32 <<< k) - 1#32) = x % (1#32 <<< k) := by
  apply BitVec.eq_of_toNat_eq
  rw [BitVec.toNat_umod, BitVec.toNat_and, BitVec.toNat_sub, pw_one k hk]
  have h1 := Nat.two_pow_pos k
  have h2 : 2 ^ k < 2 ^ 32 := Nat.pow_lt_pow_right (by omega) hk
  rw [show (2 ^ 32 - (1#32).toNat + 2 ^ k) % 2 ^ 32 = 2 ^ k - 1 by
    rw [show (1#32).toNat = 1 from rfl]
    omega]
  exact Nat.and_two_pow_sub_one_eq_mod _ _
theorem pw_mul (x : BitVec 32) : x * (1#32 <<< k) = x <<< k := by
  apply BitVec.eq_of_toNat_eq
  rw [BitVec.toNat_mul, pw_one k hk, BitVec.toNat_shiftLeft, Nat.shiftLeft_eq]
end
set_option maxRecDepth 100000 in
set_option maxHeartbeats 4000000 in
theorem lawDiv0_any (x : BitVec 32) (pl : Int) (w : World) : Calls Try.prog 7 #[.int .u32 (Al.wI x), .int .u32 0, .int .u8 pl] w fun e w' => e = .returned (.bool true) ∧ Later w w' := by
  obtain ⟨b, hb⟩ : ∃ b, b = Al.wI x := ⟨_, rfl⟩
  have K0 := dk (bI := b) (cI := 0) (rI := 4294967295) (s := x) (t := 0#32) (r := 4294967295#32) 9 hb rfl rfl rfl
  have K1 := dk (bI := b) (cI := 0) (rI := b) (s := x) (t := 0#32) (r := x) 10 hb rfl hb rfl
  rw [← hb]
  clear hb
  have HSN := Lib.hid sanity_any
  go_enter Try.func7, Try.ntmps7
  go_wp2_with (first
    | (go_at_call 23; (first | (with_reducible refine (K0.out _).mono ?_) | (with_reducible refine (K1.out _).mono ?_)); rintro e w1 ⟨rfl, l1⟩)
    | (go_at_call 12; refine (HSN.out _).mono ?_; rintro e ws ⟨rfl, ls⟩))
  go_ret
  exact ⟨rfl, by repeat (first | assumption | refine Later.trans_ ?_ (by assumption))⟩
set_option maxRecDepth 100000 in
set_option maxHeartbeats 4000000 in
theorem lawDiv1_any (x y : BitVec 32) (h : y ≠ 0#32) (k : Nat) (hk : k < 32) (pl : Int) (hp0 : 0 ≤ pl) (hpk : pl % 32 = k) (w : World) : Calls Try.prog 7 #[.int .u32 (Al.wI x), .int .u32 (Al.wI y), .int .u8 pl] w fun e w' => e = .returned (.bool true) ∧ Later w w' := by
  obtain ⟨b, hb⟩ : ∃ v, v = Al.wI (x) := ⟨_, rfl⟩
  obtain ⟨c, hc⟩ : ∃ v, v = Al.wI (y) := ⟨_, rfl⟩
  obtain ⟨q, hq⟩ : ∃ v, v = Al.wI (x / y) := ⟨_, rfl⟩
  obtain ⟨r, hr⟩ : ∃ v, v = Al.wI (x % y) := ⟨_, rfl⟩
  obtain ⟨m, hm⟩ : ∃ v, v = Al.wI ((x / y) * y) := ⟨_, rfl⟩
  obtain ⟨p, hp⟩ : ∃ v, v = Al.wI (1#32 <<< k) := ⟨_, rfl⟩
  obtain ⟨d, hd⟩ : ∃ v, v = Al.wI (x >>> k) := ⟨_, rfl⟩
  obtain ⟨o, ho⟩ : ∃ v, v = Al.wI ((1#32 <<< k) - 1#32) := ⟨_, rfl⟩
  obtain ⟨i, hi⟩ : ∃ v, v = Al.wI (x % (1#32 <<< k)) := ⟨_, rfl⟩
  obtain ⟨f, hf⟩ : ∃ v, v = Al.wI (x <<< k) := ⟨_, rfl⟩
  have hkk : (k : Int) = Al.wI (BitVec.ofNat 32 k) := by unfold Al.wI; rw [BitVec.toNat_ofNat]; omega
  have hkx : (k : Int) + 32 = Al.wI (BitVec.ofNat 32 (k + 32)) := by unfold Al.wI; rw [BitVec.toNat_ofNat]; omega
  have K0 := dk (bI := b) (cI := c) (rI := q) (s := x) (t := y) (r := x / y) 9 hb hc hq (dv_quo x y h)
  have K1 := dk (bI := b) (cI := c) (rI := r) (s := x) (t := y) (r := x % y) 10 hb hc hr (dv_mod x y h)
  have K2 := dk (bI := q) (cI := c) (rI := m) (s := x / y) (t := y) (r := (x / y) * y) 8 hq hc hm (rfl)
  have K3 := dk (bI := m) (cI := r) (rI := b) (s := (x / y) * y) (t := x % y) (r := x) 1 hm hr hb (dv_add x y)
  have K4 := dk (bI := 1) (cI := (k : Int)) (rI := p) (s := 1#32) (t := BitVec.ofNat 32 k) (r := 1#32 <<< k) 6 rfl hkk hp (pw_shl k hk 1#32)
  have K5 := dk (bI := b) (cI := (k : Int)) (rI := d) (s := x) (t := BitVec.ofNat 32 k) (r := x >>> k) 7 hb hkk hd (pw_shr k hk x)
  have K6 := dk (bI := b) (cI := p) (rI := d) (s := x) (t := 1#32 <<< k) (r := x >>> k) 9 hb hp hd (pw_quo k hk x)
  have K7 := dk (bI := p) (cI := 1) (rI := o) (s := 1#32 <<< k) (t := 1#32) (r := (1#32 <<< k) - 1#32) 2 hp rfl ho (rfl)
  have K8 := dk (bI := b) (cI := o) (rI := i) (s := x) (t := (1#32 <<< k) - 1#32) (r := x % (1#32 <<< k)) 3 hb ho hi (pw_and k hk x)
  have K9 := dk (bI := b) (cI := p) (rI := i) (s := x) (t := 1#32 <<< k) (r := x % (1#32 <<< k)) 10 hb hp hi (dv_mod x _ (pw_ne k hk))
  have K10 := dk (bI := b) (cI := (k : Int)) (rI := f) (s := x) (t := BitVec.ofNat 32 k) (r := x <<< k) 6 hb hkk hf (pw_shl k hk x)
  have K11 := dk (bI := b) (cI := p) (rI := f) (s := x) (t := 1#32 <<< k) (r := x <<< k) 8 hb hp hf (pw_mul k hk x)
  have K12 := dk (bI := b) (cI := ((k : Int) + 32)) (rI := f) (s := x) (t := BitVec.ofNat 32 (k + 32)) (r := x <<< k) 6 hb hkx hf (pw_shl2 k hk x)
  have T0 := tk (bI := r) (cI := c) (s := x % y) (t := y) (r := true) 31 hr hc (dv_rem x y h)
  have T1 := tk (bI := b) (cI := m) (s := x) (t := (x / y) * y) (r := false) 31 hb hm (dv_not x y)
  have hc0 : ¬ c = 0 := fun e => h ((Al.wI_inj (x := y) (y := 0#32)).1 (by rw [← hc, e]; rfl))
  have hkl : (k : Int) < 32 := by omega
  have htm : pl.tmod 32 = k := by rw [Int.tmod_eq_emod_of_nonneg hp0]; exact hpk
  rw [← hb, ← hc]
  clear hb hc hq hr hm hp hd ho hi hf hkk hkx h hp0
  have HSN := Lib.hid sanity_any
  go_enter Try.func7, Try.ntmps7
  go_wp2_with (first
    | (go_at_call 23; (first | (with_reducible refine (K0.out _).mono ?_) | (with_reducible refine (K1.out _).mono ?_) | (with_reducible refine (K2.out _).mono ?_) | (with_reducible refine (K3.out _).mono ?_) | (with_reducible refine (K4.out _).mono ?_) | (with_reducible refine (K5.out _).mono ?_) | (with_reducible refine (K6.out _).mono ?_) | (with_reducible refine (K7.out _).mono ?_) | (with_reducible refine (K8.out _).mono ?_) | (with_reducible refine (K9.out _).mono ?_) | (with_reducible refine (K10.out _).mono ?_) | (with_reducible refine (K11.out _).mono ?_) | (with_reducible refine (K12.out _).mono ?_)); rintro e w1 ⟨rfl, l1⟩)
    | (go_at_call 13; (first | (with_reducible refine (T0.out _).mono ?_) | (with_reducible refine (T1.out _).mono ?_)); rintro e w1 ⟨rfl, l1⟩)
    | (go_at_call 12; refine (HSN.out _).mono ?_; rintro e ws ⟨rfl, ls⟩))
  go_ret
  exact ⟨rfl, by repeat (first | assumption | refine Later.trans_ ?_ (by assumption))⟩

set_option maxRecDepth 100000 in
theorem aluDivides_lifted (os : Os) (started : os.Started) (H : Type) (enc : TypeId × Value → H) :
    ReturnsInHanded {} Try.checked os 7 .any (Rows.aluDividesSpec.pre6 enc Try.prog Try.f7 Rows.aluDividesRow.domain false) (Rows.aluDividesSpec.post enc Try.prog Try.f7 false true false false) := by
  refine returnsInHanded_of_change (C := Try.checked) ownK started (by kernel_rfl) Try.func7
    (ChangeSpec.witness6 (enc := enc) (C := Try.checked) false ⟨#[], #[.int .u32 0, .int .u32 0, .int .u8 0], []⟩ 8 (by kernel_rfl) (by kernel_rfl) (by kernel_rfl) (by kernel_rfl)) ?_
  intro W base args ds gs before hval0 hW hcnd _
  have hval : ∀ (j : Nat) t v, Try.f7.params[j]? = some t → args[j]? = some v → Value.okWide Try.prog W .any base t v := hval0
  have hW' := hW
  obtain ⟨p, q, hA0, hV, rfl, hfz, hnd⟩ := hW
  have hA : DataW.TrodAll enc Try.prog W 0 (fun _ => true) true Try.f7.params.toList args.toList ds p := hA0
  rw [Try.params7] at hA hval
  obtain ⟨v0, vs0, d0, ds0, p0, q0, hargs, rfl, rfl, h0, r0⟩ := trodAll_cons hA
  obtain ⟨v1, vs1, d1, ds1, p1, q1, rfl, rfl, rfl, h1, r1⟩ := trodAll_cons r0
  obtain ⟨v2, vs2, d2, ds2, p2, q2, rfl, rfl, rfl, h2, r2⟩ := trodAll_cons r1
  obtain ⟨rfl, rfl, rfl⟩ := trodAll_nil r2
  obtain rfl : args = #[v0, v1, v2] := by cases args; simp_all
  obtain ⟨rfl, rfl⟩ := trodVars_none hV
  obtain ⟨a0, rfl, rfl, rfl, w0⟩ := open_int Try.underlying22 (hval 0 22 v0 rfl rfl) h0
  obtain ⟨a1, rfl, rfl, rfl, w1⟩ := open_int Try.underlying22 (hval 1 22 v1 rfl rfl) h1
  obtain ⟨a2, rfl, rfl, rfl, w2⟩ := open_int Try.underlying5 (hval 2 5 v2 rfl rfl) h2
  clear hA0 hval0
  simp only [List.append_nil] at hW'
  have b0 : 0 ≤ a0 ∧ a0 ≤ 4294967295 := by
    have e1 : IntKind.u32.min = 0 := rfl
    have e2 : IntKind.u32.max = 4294967295 := rfl
    simp only [Lit.wf, Bool.and_eq_true, decide_eq_true_eq] at w0
    omega
  have b1 : 0 ≤ a1 ∧ a1 ≤ 4294967295 := by
    have e1 : IntKind.u32.min = 0 := rfl
    have e2 : IntKind.u32.max = 4294967295 := rfl
    simp only [Lit.wf, Bool.and_eq_true, decide_eq_true_eq] at w1
    omega
  have b2 : 0 ≤ a2 ∧ a2 ≤ 255 := by
    have e1 : IntKind.u8.min = 0 := rfl
    have e2 : IntKind.u8.max = 255 := rfl
    simp only [Lit.wf, Bool.and_eq_true, decide_eq_true_eq] at w2
    omega
  obtain ⟨x, rfl⟩ := Al.is_wI b0.1 (by omega)
  obtain ⟨y, rfl⟩ := Al.is_wI b1.1 (by omega)
  obtain ⟨k, hk⟩ := Int.eq_ofNat_of_zero_le (show 0 ≤ a2 % 32 by omega)
  refine (show Calls Try.prog _ _ W fun e w' => e = .returned (.bool true) ∧ Later W w' from ?_).mono fun e W' ⟨he, hw⟩ => ?_
  · by_cases h : y = 0#32
    · subst h; exact lawDiv0_any x a2 W
    · exact lawDiv1_any x y h k (by omega) a2 (by omega) hk W
  subst he
  exact ⟨_, rfl, law_post laidK rfl (by kernel_rfl) (by kernel_rfl) Try.underlying4 (by kernel_rfl) hW' rfl hw⟩
set_option maxRecDepth 100000 in
/-- The statement. -/
theorem aluDivides_said : Rows.AluDividesSaid :=
  OpenClaim.holds_of_wide 7 Try.f7 rfl rfl rfl rfl rfl rfl rfl ⟨rfl, rfl, rfl, rfl, rfl⟩ rfl rfl rfl rfl rfl (by kernel_rfl) Try.func7 (by kernel_rfl)
    (of_decide_eq_true (by kernel_rfl)) (by unfold Func.isWrapper; first | (rw [if_pos (by decide +kernel)]; kernel_rfl) | (rw [if_neg (by decide +kernel)]; exact ⟨rfl, rfl⟩))
    (fun os started H enc _ => aluDivides_lifted os started H enc)
#print axioms aluDivides_said
end Go.Proofs.Ytonfdgbohmcpjaa
