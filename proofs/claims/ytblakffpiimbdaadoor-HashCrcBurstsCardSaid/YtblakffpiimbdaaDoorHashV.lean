/-
  THE STATEMENT HashShifts: Join's shifts follow one another, and its second argument is combined by exclusive or.
-/
import Derived.Test.YtblakffpiimbdaaDoorHashS
namespace Go.Proofs.YtblakffpiimbdaaDoor
open Go.RowKit Go.ChangeShapes Go.WideShapes Go.ChangeAt

theorem i64_and40 (x : Int) : bits .and .i64 x 1099511627775 = q40 (o40 x) := by
  have hn : (BitVec.ofInt 64 x &&& BitVec.ofInt 64 1099511627775).toNat = (o40 x).toNat := by
    have h1 : (BitVec.ofInt 64 1099511627775).toNat = 2 ^ 40 - 1 := by decide
    rw [BitVec.toNat_and, h1, Nat.and_two_pow_sub_one_eq_mod]
    unfold o40
    rw [BitVec.toNat_ofInt, BitVec.toNat_ofInt]
    show (x % 18446744073709551616).toNat % 1099511627776 = (x % 1099511627776).toNat
    omega
  have hb := (o40 x).isLt
  show IntKind.i64.wrap (((BitVec.ofInt 64 x &&& BitVec.ofInt 64 1099511627775).toNat : Nat) : Int) = _
  rw [hn, wraps_i64 _ (by omega) (by omega)]
  rfl
theorem i64_xor40 (A B : BitVec 40) : bits .xor .i64 (q40 A) (q40 B) = q40 (A ^^^ B) := by
  have ha : (BitVec.ofInt 64 (q40 A)).toNat = A.toNat := by
    have := A.isLt
    unfold q40; rw [BitVec.toNat_ofInt]
    show ((A.toNat : Int) % 18446744073709551616).toNat = _
    omega
  have hb : (BitVec.ofInt 64 (q40 B)).toNat = B.toNat := by
    have := B.isLt
    unfold q40; rw [BitVec.toNat_ofInt]
    show ((B.toNat : Int) % 18446744073709551616).toNat = _
    omega
  have hx := (A ^^^ B).isLt
  have hn : (BitVec.ofInt 64 (q40 A) ^^^ BitVec.ofInt 64 (q40 B)).toNat = (A ^^^ B).toNat := by
    rw [BitVec.toNat_xor, ha, hb, ← BitVec.toNat_xor]
  show IntKind.i64.wrap (((BitVec.ofInt 64 (q40 A) ^^^ BitVec.ofInt 64 (q40 B)).toNat : Nat) : Int) = _
  rw [hn, wraps_i64 _ (by omega) (by omega)]
  rfl
/-- What the shifts give, the numbers hidden. -/
theorem shifts_key (a b n m : Int) : ∃ N M s r1 r2 r3 bb : Int, bits .and .i64 n 1099511627775 = N ∧ bits .and .i64 m 1099511627775 = M ∧ IntKind.i64.wrap (N + M) = s ∧ bits .and .i64 b 1099511627775 = bb ∧ bits .xor .i64 r1 bb = r3 ∧
    (∀ w' : World, Calls Tryd.prog 26 #[.int .i64 a, .int .i64 0, .int .i64 s] w' fun e w'' => e = .returned (.int .i64 r1) ∧ w' = w'') ∧
    (∀ w' : World, Calls Tryd.prog 26 #[.int .i64 a, .int .i64 0, .int .i64 N] w' fun e w'' => e = .returned (.int .i64 r2) ∧ w' = w'') ∧
    (∀ w' : World, Calls Tryd.prog 26 #[.int .i64 r2, .int .i64 0, .int .i64 M] w' fun e w'' => e = .returned (.int .i64 r1) ∧ w' = w'') ∧
    (∀ w' : World, Calls Tryd.prog 26 #[.int .i64 a, .int .i64 b, .int .i64 s] w' fun e w'' => e = .returned (.int .i64 r3) ∧ w' = w'') ∧
    (∀ w' : World, Calls Tryd.prog 26 #[.int .i64 0, .int .i64 b, .int .i64 N] w' fun e w'' => e = .returned (.int .i64 bb) ∧ w' = w'') := by
  have hN := q40_bd (o40 n); have hM := q40_bd (o40 m)
  obtain ⟨i, hi⟩ := Int.eq_ofNat_of_zero_le hN.1
  obtain ⟨j, hj⟩ := Int.eq_ofNat_of_zero_le hM.1
  have z0 : o40 0 = 0#40 := by decide
  have x0 : ∀ r : Hm.R, r ^^^ 0#40 = r := fun r => BitVec.xor_zero
  refine ⟨(i : Int), (j : Int), ((i + j : Nat) : Int), joinR a 0 (i + j), joinR a 0 i, joinR a b (i + j), q40 (o40 b), ?_, ?_, ?_, i64_and40 b, ?_, ?_, ?_, ?_, ?_, ?_⟩
  · rw [i64_and40, hi]
  · rw [i64_and40, hj]
  · rw [IntKind.wrap_i64]; omega
  · unfold joinR
    rw [i64_xor40, z0, x0]
  · exact fun w' => join_any a 0 (i + j) w' (by omega)
  · exact fun w' => join_any a 0 i w' (by omega)
  · intro w'
    have h := join_any (joinR a 0 i) 0 j w' (by omega)
    have e : joinR (joinR a 0 i) 0 j = joinR a 0 (i + j) := by
      unfold joinR
      rw [o40_q40, z0, x0, x0, x0, ← Hm.Xn_add, Nat.mul_add]
    rw [e] at h
    exact h
  · exact fun w' => join_any a b (i + j) w' (by omega)
  · intro w'
    have h := join_any 0 b i w' (by omega)
    have e : joinR 0 b i = q40 (o40 b) := by
      unfold joinR
      rw [z0, Hm.Xn_zero, BitVec.zero_xor]
    rw [e] at h
    exact h

set_option maxRecDepth 100000 in
set_option maxHeartbeats 1000000 in
theorem lawShifts_any (a b n m : Int) (w : World) (tab : Tab w) :
    Calls Tryd.prog 8 #[.int .i64 a, .int .i64 b, .int .i64 n, .int .i64 m] w fun e w' => e = .returned (.bool true) ∧ Later w w' := by
  have HS := Lib.hid (sanity_any w tab)
  clear tab
  obtain ⟨N, M, s, r1, r2, r3, bb, hN, hM, hs, hb, hx, k1, k2, k3, k4, k5⟩ := shifts_key a b n m
  have K1 := Lib.hid k1; have K2 := Lib.hid k2; have K3 := Lib.hid k3; have K4 := Lib.hid k4; have K5 := Lib.hid k5
  clear k1 k2 k3 k4 k5
  have t1 : (r1 == r1) = true := by simp
  have t2 : (r3 == r3) = true := by simp
  have t3 : (bb == bb) = true := by simp
  go_enter Tryd.func8, Tryd.ntmps8
  go_wp2_with (first
    | (go_at_call 15; refine HS.out.mono ?_; rintro e w1 ⟨rfl, l1⟩)
    | (go_at_call 26; with_reducible refine (K1.out _).mono ?_; rintro e w2 ⟨rfl, rfl⟩)
    | (go_at_call 26; with_reducible refine (K2.out _).mono ?_; rintro e w2 ⟨rfl, rfl⟩)
    | (go_at_call 26; with_reducible refine (K3.out _).mono ?_; rintro e w2 ⟨rfl, rfl⟩)
    | (go_at_call 26; with_reducible refine (K4.out _).mono ?_; rintro e w2 ⟨rfl, rfl⟩)
    | (go_at_call 26; with_reducible refine (K5.out _).mono ?_; rintro e w2 ⟨rfl, rfl⟩))
  go_ret
  exact ⟨rfl, l1⟩

theorem hashShifts_contract (H : Type) (enc : TypeId × Value → H) (W : World) (base : Nat) (args : Array Value) (ds gs : List (DataW H)) (before : List MemPlace)
    (hval : ∀ (j : Nat) t v, Tryd.f8.params[j]? = some t → args[j]? = some v → Value.okWide Tryd.prog W .any base t v)
    (hW : DataW.Whole enc Tryd.prog Tryd.f8.params.toList Rows.hashShiftsSpec.vars false W args.toList ds gs before) (hL : laidMetH Tryd.prog Rows.hashShiftsRow.laid W) :
    Calls Tryd.prog 8 args W fun e W' => ∃ v, e = .returned v ∧ Rows.hashShiftsSpec.post enc Tryd.prog Tryd.f8 false true false false W args v W' := by
  have hW' := hW
  have tab : Tab W := tab_of hL
  obtain ⟨p, q, hA0, hV, rfl, _, _⟩ := hW
  have hA : DataW.TrodAll enc Tryd.prog W 0 (fun _ => true) true Tryd.f8.params.toList args.toList ds p := hA0
  rw [Tryd.params8] at hA hval
  obtain ⟨v0, vs0, d0, ds0, p0, q0, hargs, rfl, rfl, h0, r0⟩ := trodAll_cons hA
  obtain ⟨v1, vs1, d1, ds1, p1, q1, rfl, rfl, rfl, h1, r1⟩ := trodAll_cons r0
  obtain ⟨v2, vs2, d2, ds2, p2, q2, rfl, rfl, rfl, h2, r2⟩ := trodAll_cons r1
  obtain ⟨v3, vs3, d3, ds3, p3, q3, rfl, rfl, rfl, h3, r3⟩ := trodAll_cons r2
  obtain ⟨rfl, rfl, rfl⟩ := trodAll_nil r3
  obtain rfl : args = #[v0, v1, v2, v3] := by cases args; simp_all
  obtain ⟨rfl, rfl⟩ := trodVars_none hV
  obtain ⟨n0, rfl, _, _⟩ := int_arg Tryd.underlying3 (hval 0 3 v0 rfl rfl) h0
  obtain ⟨n1, rfl, _, _⟩ := int_arg Tryd.underlying3 (hval 1 3 v1 rfl rfl) h1
  obtain ⟨n2, rfl, _, _⟩ := int_arg Tryd.underlying3 (hval 2 3 v2 rfl rfl) h2
  obtain ⟨n3, rfl, _, _⟩ := int_arg Tryd.underlying3 (hval 3 3 v3 rfl rfl) h3
  clear hA0
  simp only [List.append_nil] at hW'
  refine (lawShifts_any n0 n1 n2 n3 W tab).mono fun e W' ⟨he, hw⟩ => ?_
  subst he
  exact ⟨_, rfl, law_post laidK rfl (by kernel_rfl) (by kernel_rfl) Tryd.underlying4 (by kernel_rfl) hW' rfl hw⟩
theorem hashShifts_met (os : Os) : laidMet Tryd.prog Rows.hashShiftsRow.laid ((laidWorld os).forCall (fun _ _ => 0) ⟨#[], #[.int .i64 0, .int .i64 0, .int .i64 0, .int .i64 0], []⟩).memory :=
  laidMet_of_run' 8 (by kernel_rfl) (by kernel_rfl)
theorem hashShifts_reads (os : Os) {H : Type} (enc : TypeId × Value → H) : ∃ places, DataW.whole enc Tryd.prog ((laidWorld os).forCall (fun _ _ => 0) ⟨#[], #[.int .i64 0, .int .i64 0, .int .i64 0, .int .i64 0], []⟩).memory Tryd.f8.params.toList Rows.hashShiftsSpec.vars false (#[.int .i64 0, .int .i64 0, .int .i64 0, .int .i64 0] : Array Value).toList 8 = some ([.lit (.int .i64 0), .lit (.int .i64 0), .lit (.int .i64 0), .lit (.int .i64 0)], [], places) :=
  ⟨[], by kernel_rfl⟩

set_option maxRecDepth 100000 in
theorem hashShifts_lifted (os : Os) (started : os.Started) (H : Type) (enc : TypeId × Value → H) (F : Stop.Interp) :
    ReturnsInHanded {} Tryd.checked os 8 .any ((OpenSpec.ofChange Rows.hashShiftsSpec).preRow enc Tryd.prog Tryd.f8 Rows.hashShiftsRow.domain false Rows.hashShiftsRow.laid) (((OpenSpec.ofChange Rows.hashShiftsSpec).at F).post enc Tryd.prog Tryd.f8 false true false false) := by
  obtain ⟨places, hx⟩ := hashShifts_reads os enc
  refine returnsInHanded_of_row (C := Tryd.checked) (s := OpenSpec.ofChange Rows.hashShiftsSpec) ownK started (by kernel_rfl) Tryd.func8
    (witness_row_at (enc := enc) (C := Tryd.checked) false (laidWorld os) #[.int .i64 0, .int .i64 0, .int .i64 0, .int .i64 0] rfl (by kernel_rfl) (by kernel_rfl) (by kernel_rfl)
      (OpenSpec.preRow_of_cond 8 hx (by kernel_rfl) (fun k hk => by cases hk) (by kernel_rfl) (hashShifts_met os))) ?_
  intro W base args ds gs before hval hW _ _ _ hL _ _
  exact hashShifts_contract H enc W base args ds gs before hval hW hL

set_option maxRecDepth 100000 in
theorem hashShifts_said : Rows.HashShiftsSaid :=
  OpenClaim.holds_of_cond 8 Tryd.f8 rfl rfl rfl rfl rfl rfl rfl ⟨rfl, rfl, rfl, rfl, rfl⟩ rfl rfl rfl rfl rfl (by kernel_rfl) Tryd.func8 (by kernel_rfl)
    (of_decide_eq_true (by kernel_rfl)) (by unfold Func.isWrapper; first | (rw [if_pos (by decide +kernel)]; kernel_rfl) | (rw [if_neg (by decide +kernel)]; exact ⟨rfl, rfl⟩))
    (fun os started H enc _ F => by rw [OpenClaim.pre_eq_preRow]; exact hashShifts_lifted os started H enc F)

theorem hashShifts_plain (f : FuncId) (fn : Func) (hf : Tryd.pinned.checked.prog.funcNamed "simulacrum/simulacrumlaw02.HashShifts" = some f) (hfn : Tryd.pinned.checked.prog.funcs[f]? = some fn) :
    false = Tryd.pinned.checked.prog.looks [] ∧ ∀ (j : Nat) t, fn.params[j]? = some t → Tryd.pinned.checked.prog.wantsStandIn t = false := by
  obtain rfl : f = 8 := Option.some.inj ((show Tryd.prog.funcNamed "simulacrum/simulacrumlaw02.HashShifts" = some 8 by kernel_rfl).symm.trans hf) |>.symm
  obtain rfl : fn = Tryd.f8 := (Option.some.inj (Tryd.func8.symm.trans hfn)).symm
  refine ⟨by kernel_rfl, fun j t ht => ?_⟩
  exact wants_none 8 Tryd.f8.params (by kernel_rfl) j t ht

/-- The card. -/
theorem hashShifts_card : Rows.HashShiftsCardSaid :=
  Claim7.holds_tied_plain_at .later [] _ _ _ _ hashShifts_said (fun _ h => by cases h) (by kernel_rfl) (fun _ h => by cases h) hashShifts_row_tie rfl ⟨rfl, rfl⟩ (by kernel_rfl) rfl hashShifts_plain (by kernel_rfl)
#print axioms hashShifts_card

end Go.Proofs.YtblakffpiimbdaaDoor
