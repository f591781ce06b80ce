/-
  THE STATEMENT HashJoinMatchesSpec: joined checks are those of the specification.
-/
import Derived.Test.YtblakffpiimbdaaDoorHashS
namespace Go.Proofs.YtblakffpiimbdaaDoor
open Go.RowKit Go.ChangeShapes Go.WideShapes Go.ChangeAt

set_option maxRecDepth 100000 in
set_option maxHeartbeats 1000000 in
theorem lawJoin_any (a b n : Int) (w : World) (tab : Tab w) (hr : -9223372036854775808 ≤ n ∧ n ≤ 9223372036854775807) :
    Calls Tryd.prog 6 #[.int .i64 a, .int .i64 b, .int .i64 n] w fun e w' => e = .returned (.bool true) ∧ Later w w' := by
  have HS := Lib.hid (sanity_any w tab)
  clear tab
  rcases Int.lt_or_le 300 n with h3 | h3
  · go_enter Tryd.func6, Tryd.ntmps6
    go_wp2_with (go_at_call 15; refine HS.out.mono ?_; rintro e w1 ⟨rfl, l1⟩)
    go_ret
    exact ⟨rfl, l1⟩
  · have key : ∃ r : Int, (∀ w' : World, Calls Tryd.prog 26 #[.int .i64 a, .int .i64 b, .int .i64 n] w' fun e w'' => e = .returned (.int .i64 r) ∧ w' = w'') ∧
        (∀ w' : World, Calls Tryd.prog 27 #[.int .i64 a, .int .i64 b, .int .i64 n] w' fun e w'' => e = .returned (.int .i64 r) ∧ w' = w'') := by
      rcases Int.lt_or_le n 0 with h | h
      · exact ⟨0, fun w' => join_neg a b n w' h, fun w' => refJoin_neg a b n w' h⟩
      · obtain ⟨k, rfl⟩ := Int.eq_ofNat_of_zero_le h
        exact ⟨joinR a b k, fun w' => join_any a b k w' (by omega), fun w' => refJoin_any a b k w' (by omega)⟩
    obtain ⟨r, k1, k2⟩ := key
    have K1 := Lib.hid k1; have K2 := Lib.hid k2
    clear k1 k2
    have h4 : (r == r) = true := by simp
    go_enter Tryd.func6, Tryd.ntmps6
    go_wp2_with (first
      | (go_at_call 15; refine HS.out.mono ?_; rintro e w1 ⟨rfl, l1⟩)
      | (go_at_call 26; refine (K1.out _).mono ?_; rintro e w2 ⟨rfl, rfl⟩)
      | (go_at_call 27; refine (K2.out _).mono ?_; rintro e w2 ⟨rfl, rfl⟩))
    go_ret
    exact ⟨rfl, l1⟩

theorem hashJoinMatchesSpec_contract (H : Type) (enc : TypeId × Value → H) (W : World) (base : Nat) (args : Array Value) (ds gs : List (DataW H)) (before : List MemPlace)
    (hval : ∀ (j : Nat) t v, Tryd.f6.params[j]? = some t → args[j]? = some v → Value.okWide Tryd.prog W .any base t v)
    (hW : DataW.Whole enc Tryd.prog Tryd.f6.params.toList Rows.hashJoinMatchesSpecSpec.vars false W args.toList ds gs before) (hL : laidMetH Tryd.prog Rows.hashJoinMatchesSpecRow.laid W) :
    Calls Tryd.prog 6 args W fun e W' => ∃ v, e = .returned v ∧ Rows.hashJoinMatchesSpecSpec.post enc Tryd.prog Tryd.f6 false true false false W args v W' := by
  have hW' := hW
  have tab : Tab W := tab_of hL
  obtain ⟨p, q, hA0, hV, rfl, _, _⟩ := hW
  have hA : DataW.TrodAll enc Tryd.prog W 0 (fun _ => true) true Tryd.f6.params.toList args.toList ds p := hA0
  rw [Tryd.params6] at hA hval
  obtain ⟨v0, vs0, d0, ds0, p0, q0, hargs, rfl, rfl, h0, r0⟩ := trodAll_cons hA
  obtain ⟨v1, vs1, d1, ds1, p1, q1, rfl, rfl, rfl, h1, r1⟩ := trodAll_cons r0
  obtain ⟨v2, vs2, d2, ds2, p2, q2, rfl, rfl, rfl, h2, r2⟩ := trodAll_cons r1
  obtain ⟨rfl, rfl, rfl⟩ := trodAll_nil r2
  obtain rfl : args = #[v0, v1, v2] := by cases args; simp_all
  obtain ⟨rfl, rfl⟩ := trodVars_none hV
  obtain ⟨n0, rfl, _, _⟩ := int_arg Tryd.underlying3 (hval 0 3 v0 rfl rfl) h0
  obtain ⟨n1, rfl, _, _⟩ := int_arg Tryd.underlying3 (hval 1 3 v1 rfl rfl) h1
  obtain ⟨n2, rfl, b5, b6⟩ := int_arg Tryd.underlying3 (hval 2 3 v2 rfl rfl) h2
  clear hA0
  simp only [List.append_nil] at hW'
  refine (lawJoin_any n0 n1 n2 W tab ⟨b5, b6⟩).mono fun e W' ⟨he, hw⟩ => ?_
  subst he
  exact ⟨_, rfl, law_post laidK rfl (by kernel_rfl) (by kernel_rfl) Tryd.underlying4 (by kernel_rfl) hW' rfl hw⟩
theorem hashJoinMatchesSpec_met (os : Os) : laidMet Tryd.prog Rows.hashJoinMatchesSpecRow.laid ((laidWorld os).forCall (fun _ _ => 0) ⟨#[], #[.int .i64 0, .int .i64 0, .int .i64 0], []⟩).memory :=
  laidMet_of_run' 8 (by kernel_rfl) (by kernel_rfl)
theorem hashJoinMatchesSpec_reads (os : Os) {H : Type} (enc : TypeId × Value → H) : ∃ places, DataW.whole enc Tryd.prog ((laidWorld os).forCall (fun _ _ => 0) ⟨#[], #[.int .i64 0, .int .i64 0, .int .i64 0], []⟩).memory Tryd.f6.params.toList Rows.hashJoinMatchesSpecSpec.vars false (#[.int .i64 0, .int .i64 0, .int .i64 0] : Array Value).toList 8 = some ([.lit (.int .i64 0), .lit (.int .i64 0), .lit (.int .i64 0)], [], places) :=
  ⟨[], by kernel_rfl⟩

set_option maxRecDepth 100000 in
theorem hashJoinMatchesSpec_lifted (os : Os) (started : os.Started) (H : Type) (enc : TypeId × Value → H) (F : Stop.Interp) :
    ReturnsInHanded {} Tryd.checked os 6 .any ((OpenSpec.ofChange Rows.hashJoinMatchesSpecSpec).preRow enc Tryd.prog Tryd.f6 Rows.hashJoinMatchesSpecRow.domain false Rows.hashJoinMatchesSpecRow.laid) (((OpenSpec.ofChange Rows.hashJoinMatchesSpecSpec).at F).post enc Tryd.prog Tryd.f6 false true false false) := by
  obtain ⟨places, hx⟩ := hashJoinMatchesSpec_reads os enc
  refine returnsInHanded_of_row (C := Tryd.checked) (s := OpenSpec.ofChange Rows.hashJoinMatchesSpecSpec) ownK started (by kernel_rfl) Tryd.func6
    (witness_row_at (enc := enc) (C := Tryd.checked) false (laidWorld os) #[.int .i64 0, .int .i64 0, .int .i64 0] rfl (by kernel_rfl) (by kernel_rfl) (by kernel_rfl)
      (OpenSpec.preRow_of_cond 8 hx (by kernel_rfl) (fun k hk => by cases hk) (by kernel_rfl) (hashJoinMatchesSpec_met os))) ?_
  intro W base args ds gs before hval hW _ _ _ hL _ _
  exact hashJoinMatchesSpec_contract H enc W base args ds gs before hval hW hL

set_option maxRecDepth 100000 in
theorem hashJoinMatchesSpec_said : Rows.HashJoinMatchesSpecSaid :=
  OpenClaim.holds_of_cond 6 Tryd.f6 rfl rfl rfl rfl rfl rfl rfl ⟨rfl, rfl, rfl, rfl, rfl⟩ rfl rfl rfl rfl rfl (by kernel_rfl) Tryd.func6 (by kernel_rfl)
    (of_decide_eq_true (by kernel_rfl)) (by unfold Func.isWrapper; first | (rw [if_pos (by decide +kernel)]; kernel_rfl) | (rw [if_neg (by decide +kernel)]; exact ⟨rfl, rfl⟩))
    (fun os started H enc _ F => by rw [OpenClaim.pre_eq_preRow]; exact hashJoinMatchesSpec_lifted os started H enc F)

theorem hashJoinMatchesSpec_plain (f : FuncId) (fn : Func) (hf : Tryd.pinned.checked.prog.funcNamed "simulacrum/simulacrumlaw02.HashJoinMatchesSpec" = some f) (hfn : Tryd.pinned.checked.prog.funcs[f]? = some fn) :
    false = Tryd.pinned.checked.prog.looks [] ∧ ∀ (j : Nat) t, fn.params[j]? = some t → Tryd.pinned.checked.prog.wantsStandIn t = false := by
  obtain rfl : f = 6 := Option.some.inj ((show Tryd.prog.funcNamed "simulacrum/simulacrumlaw02.HashJoinMatchesSpec" = some 6 by kernel_rfl).symm.trans hf) |>.symm
  obtain rfl : fn = Tryd.f6 := (Option.some.inj (Tryd.func6.symm.trans hfn)).symm
  refine ⟨by kernel_rfl, fun j t ht => ?_⟩
  exact wants_none 6 Tryd.f6.params (by kernel_rfl) j t ht

/-- The card. -/
theorem hashJoinMatchesSpec_card : Rows.HashJoinMatchesSpecCardSaid :=
  Claim7.holds_tied_plain_at .later [] _ _ _ _ hashJoinMatchesSpec_said (fun _ h => by cases h) (by kernel_rfl) (fun _ h => by cases h) hashJoinMatchesSpec_row_tie rfl ⟨rfl, rfl⟩ (by kernel_rfl) rfl hashJoinMatchesSpec_plain (by kernel_rfl)
#print axioms hashJoinMatchesSpec_card

end Go.Proofs.YtblakffpiimbdaaDoor
