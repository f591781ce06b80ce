/-
  THE STATEMENT MerkleManyAsSpecified: Many and CheckMany answer as the specification does, for every list of at most 40 digests, at most 12 places, whatever they are, any number, digests, and path of at most 60 digests.
-/
import Derived.Test.YtaihfkcoiagdaabDoorGwc
import Derived.Test.YtaihfkcoiagdaabDoorGt
namespace Go.Proofs.YtaihfkcoiagdaabDoor
open Go.RowKit Go.ChangeShapes Go.WideShapes Go.ChangeAt

theorem manySpec_all (A : Option Addr) (n c : Nat) (A1 : Option Addr) (k c1 : Nat) (z : Int) (A2 : Option Addr) (kf c2 : Nat) (A3 : Option Addr) (k3 c3 : Nat) (rt : Wm.Bs) (l : List Wm.Bs) (ps : List Int) (F T : List Wm.Bs) (w : World) (tab : Tab w) (tab0 : Tab0 w) (hdr : rt.length = 16 ∧ Wm.isBs rt)
    (hs : Sl w 16 A n (Ds l)) (hl : isD l) (hnc : n ≤ c) (hc : c ≤ 9223372036854775807) (hsp : Sl w 1 A1 k (N64 ps)) (hkc : k ≤ c1) (hc1 : c1 ≤ 9223372036854775807)
    (hsf : Sl w 16 A2 kf (Ds F)) (hlf : isD F) (hk2 : kf ≤ c2) (hc2 : c2 ≤ 9223372036854775807) (hst : Sl w 16 A3 k3 (Ds T)) (hlt : isD T) (hkc3 : k3 ≤ c3) (hc3 : c3 ≤ 9223372036854775807) :
    Calls Tryd.prog 4 #[.slice A n c, .slice A1 k c1, .int .i64 z, .slice A2 kf c2, .slice A3 k3 c3, .agg (U rt).toArray] w fun e w' => e = .returned (.bool true) ∧ Later w w' := by
  by_cases h1 : 40 < n
  · exact manySpec_big A A1 A2 A3 n c k c1 kf c2 k3 c3 z rt w tab tab0 (.inl h1)
  · by_cases h2 : 12 < k
    · exact manySpec_big A A1 A2 A3 n c k c1 kf c2 k3 c3 z rt w tab tab0 (.inr (.inl h2))
    · by_cases h3 : 12 < kf
      · exact manySpec_big A A1 A2 A3 n c k c1 kf c2 k3 c3 z rt w tab tab0 (.inr (.inr (.inl h3)))
      · by_cases h4 : 60 < k3
        · exact manySpec_big A A1 A2 A3 n c k c1 kf c2 k3 c3 z rt w tab tab0 (.inr (.inr (.inr h4)))
        · exact manySpec_any A A1 A2 A3 n c k c1 kf c2 k3 c3 z rt l ps F T w tab tab0 (by omega) (by omega) (by omega) (by omega) hdr hs hl hnc hc hsp hkc hc1 hsf hlf hk2 hc2 hst hlt hkc3 hc3

set_option maxRecDepth 100000 in
theorem merkleManyAsSpecified_contract (H : Type) (enc : TypeId × Value → H) (W : World) (base : Nat) (args : Array Value) (ds gs : List (DataW H)) (before : List MemPlace)
    (hval : ∀ (j : Nat) t v, Tryd.f4.params[j]? = some t → args[j]? = some v → Value.okWide Tryd.prog W .any base t v)
    (hW : DataW.Whole enc Tryd.prog Tryd.f4.params.toList Rows.merkleManyAsSpecifiedSpec.vars false W args.toList ds gs before) (hL : laidMetH Tryd.prog Rows.merkleManyAsSpecifiedRow.laid W) :
    Calls Tryd.prog 4 args W fun e W' => ∃ v, e = .returned v ∧ Rows.merkleManyAsSpecifiedSpec.post enc Tryd.prog Tryd.f4 false true false false W args v W' := by
  have hW' := hW
  obtain ⟨tab0, tab⟩ : Tab0 W ∧ Tab W := tabs_of hL
  obtain ⟨p, q, hA0, hV, rfl, _, _⟩ := hW
  have hA : DataW.TrodAll enc Tryd.prog W 0 (fun _ => true) true Tryd.f4.params.toList args.toList ds p := hA0
  rw [Tryd.params4] at hA hval
  obtain ⟨v0, vs0, d0, ds0, p0, q0, hargs, rfl, rfl, h0, r0⟩ := trodAll_cons hA
  obtain ⟨v1, vs1, d1, ds1, p1, q1, rfl, rfl, rfl, h1, r1⟩ := trodAll_cons r0
  obtain ⟨v2, vs2, d2, ds2, p2, q2, rfl, rfl, rfl, h2, r2⟩ := trodAll_cons r1
  obtain ⟨v3, vs3, d3, ds3, p3, q3, rfl, rfl, rfl, h3, r3⟩ := trodAll_cons r2
  obtain ⟨v4, vs4, d4, ds4, p4, q4, rfl, rfl, rfl, h4, r4⟩ := trodAll_cons r3
  obtain ⟨v5, vs5, d5, ds5, p5, q5, rfl, rfl, rfl, h5, r5⟩ := trodAll_cons r4
  obtain ⟨rfl, rfl, rfl⟩ := trodAll_nil r5
  obtain rfl : args = #[v0, v1, v2, v3, v4, v5] := by cases args; simp_all
  obtain ⟨rfl, rfl⟩ := trodVars_none hV
  obtain ⟨A0, n0, c0, l0, rfl, x0, y0, s0, z0⟩ := digs_arg Tryd.underlying22 Tryd.underlying31 Tryd.underlying5 (by kernel_rfl) (by kernel_rfl) (hval 0 22 v0 rfl rfl) h0
  obtain ⟨A1, n1, c1, l1, rfl, x1, y1, s1, z1⟩ := ints_arg Tryd.underlying37 Tryd.underlying3 (by kernel_rfl) (hval 1 37 v1 rfl rfl) h1
  obtain ⟨n2, rfl, x2, y2⟩ := int_arg Tryd.underlying3 (hval 2 3 v2 rfl rfl) h2
  obtain ⟨A3, n3, c3, l3, rfl, x3, y3, s3, z3⟩ := digs_arg Tryd.underlying22 Tryd.underlying31 Tryd.underlying5 (by kernel_rfl) (by kernel_rfl) (hval 3 22 v3 rfl rfl) h3
  obtain ⟨A4, n4, c4, l4, rfl, x4, y4, s4, z4⟩ := digs_arg Tryd.underlying22 Tryd.underlying31 Tryd.underlying5 (by kernel_rfl) (by kernel_rfl) (hval 4 22 v4 rfl rfl) h4
  obtain ⟨b5, x5, y5, rfl⟩ := arr_arg Tryd.underlying31 Tryd.underlying5 (by kernel_rfl) (by kernel_rfl) (hval 5 31 v5 rfl rfl) h5
  clear hA0
  simp only [List.append_nil] at hW'
  refine (manySpec_all A0 n0 c0 A1 n1 c1 n2 A3 n3 c3 A4 n4 c4 b5 l0 l1 l3 l4 W tab tab0 ⟨x5, y5⟩ s0 z0 x0 (by unfold maxLen at y0; omega) s1 x1 (by unfold maxLen at y1; omega) s3 z3 x3 (by unfold maxLen at y3; omega) s4 z4 x4 (by unfold maxLen at y4; omega)).mono fun e W' ⟨he, hw⟩ => ?_
  subst he
  exact ⟨_, rfl, law_post laidK rfl (by kernel_rfl) (by kernel_rfl) Tryd.underlying4 (by kernel_rfl) hW' rfl hw⟩
set_option maxRecDepth 100000 in
theorem merkleManyAsSpecified_met (os : Os) : laidMet Tryd.prog Rows.merkleManyAsSpecifiedRow.laid ((laidWorld2 os).forCall (fun _ _ => 0) ⟨#[], #[.slice none 0 0, .slice none 0 0, .int .i64 0, .slice none 0 0, .slice none 0 0, .agg #[.int .u8 0, .int .u8 0, .int .u8 0, .int .u8 0, .int .u8 0, .int .u8 0, .int .u8 0, .int .u8 0, .int .u8 0, .int .u8 0, .int .u8 0, .int .u8 0, .int .u8 0, .int .u8 0, .int .u8 0, .int .u8 0]], []⟩).memory :=
  laidMet_of_run' 8 (by kernel_rfl) (by kernel_rfl)
set_option maxRecDepth 100000 in
theorem merkleManyAsSpecified_reads (os : Os) {H : Type} (enc : TypeId × Value → H) : ∃ places, DataW.whole enc Tryd.prog ((laidWorld2 os).forCall (fun _ _ => 0) ⟨#[], #[.slice none 0 0, .slice none 0 0, .int .i64 0, .slice none 0 0, .slice none 0 0, .agg #[.int .u8 0, .int .u8 0, .int .u8 0, .int .u8 0, .int .u8 0, .int .u8 0, .int .u8 0, .int .u8 0, .int .u8 0, .int .u8 0, .int .u8 0, .int .u8 0, .int .u8 0, .int .u8 0, .int .u8 0, .int .u8 0]], []⟩).memory Tryd.f4.params.toList Rows.merkleManyAsSpecifiedSpec.vars false (#[.slice none 0 0, .slice none 0 0, .int .i64 0, .slice none 0 0, .slice none 0 0, .agg #[.int .u8 0, .int .u8 0, .int .u8 0, .int .u8 0, .int .u8 0, .int .u8 0, .int .u8 0, .int .u8 0, .int .u8 0, .int .u8 0, .int .u8 0, .int .u8 0, .int .u8 0, .int .u8 0, .int .u8 0, .int .u8 0]] : Array Value).toList 8 = some ([.nil, .nil, .lit (.int .i64 0), .nil, .nil, .agg [.lit (.int .u8 0), .lit (.int .u8 0), .lit (.int .u8 0), .lit (.int .u8 0), .lit (.int .u8 0), .lit (.int .u8 0), .lit (.int .u8 0), .lit (.int .u8 0), .lit (.int .u8 0), .lit (.int .u8 0), .lit (.int .u8 0), .lit (.int .u8 0), .lit (.int .u8 0), .lit (.int .u8 0), .lit (.int .u8 0), .lit (.int .u8 0)]], [], places) :=
  ⟨[], by kernel_rfl⟩

set_option maxRecDepth 100000 in
theorem merkleManyAsSpecified_lifted (os : Os) (started : os.Started) (H : Type) (enc : TypeId × Value → H) (F : Stop.Interp) :
    ReturnsInHanded {} Tryd.checked os 4 .any ((OpenSpec.ofChange Rows.merkleManyAsSpecifiedSpec).preRow enc Tryd.prog Tryd.f4 Rows.merkleManyAsSpecifiedRow.domain false Rows.merkleManyAsSpecifiedRow.laid) (((OpenSpec.ofChange Rows.merkleManyAsSpecifiedSpec).at F).post enc Tryd.prog Tryd.f4 false true false false) := by
  obtain ⟨places, hx⟩ := merkleManyAsSpecified_reads os enc
  refine returnsInHanded_of_row (C := Tryd.checked) (s := OpenSpec.ofChange Rows.merkleManyAsSpecifiedSpec) ownK started (by kernel_rfl) Tryd.func4
    (witness_row_at (enc := enc) (C := Tryd.checked) false (laidWorld2 os) #[.slice none 0 0, .slice none 0 0, .int .i64 0, .slice none 0 0, .slice none 0 0, .agg #[.int .u8 0, .int .u8 0, .int .u8 0, .int .u8 0, .int .u8 0, .int .u8 0, .int .u8 0, .int .u8 0, .int .u8 0, .int .u8 0, .int .u8 0, .int .u8 0, .int .u8 0, .int .u8 0, .int .u8 0, .int .u8 0]] rfl (by kernel_rfl) (by kernel_rfl) (by kernel_rfl)
      (OpenSpec.preRow_of_cond 8 hx (by kernel_rfl) (fun k hk => by cases hk) (by kernel_rfl) (merkleManyAsSpecified_met os))) ?_
  intro W base args ds gs before hval hW _ _ _ hL _ _
  exact merkleManyAsSpecified_contract H enc W base args ds gs before hval hW hL

set_option maxRecDepth 100000 in
theorem merkleManyAsSpecified_said : Rows.MerkleManyAsSpecifiedSaid :=
  OpenClaim.holds_of_cond 4 Tryd.f4 rfl rfl rfl rfl rfl rfl rfl ⟨rfl, rfl, rfl, rfl, rfl⟩ rfl rfl rfl rfl rfl (by kernel_rfl) Tryd.func4 (by kernel_rfl)
    (of_decide_eq_true (by kernel_rfl)) (by unfold Func.isWrapper; first | (rw [if_pos (by decide +kernel)]; kernel_rfl) | (rw [if_neg (by decide +kernel)]; exact ⟨rfl, rfl⟩))
    (fun os started H enc _ F => by rw [OpenClaim.pre_eq_preRow]; exact merkleManyAsSpecified_lifted os started H enc F)

set_option maxRecDepth 100000 in
theorem merkleManyAsSpecified_plain (f : FuncId) (fn : Func) (hf : Tryd.pinned.checked.prog.funcNamed "simulacrum/simulacrumlaw03.MerkleManyAsSpecified" = some f) (hfn : Tryd.pinned.checked.prog.funcs[f]? = some fn) :
    false = Tryd.pinned.checked.prog.looks [] ∧ ∀ (j : Nat) t, fn.params[j]? = some t → Tryd.pinned.checked.prog.wantsStandIn t = false := by
  obtain rfl : f = 4 := Option.some.inj ((show Tryd.prog.funcNamed "simulacrum/simulacrumlaw03.MerkleManyAsSpecified" = some 4 by kernel_rfl).symm.trans hf) |>.symm
  obtain rfl : fn = Tryd.f4 := (Option.some.inj (Tryd.func4.symm.trans hfn)).symm
  refine ⟨by kernel_rfl, fun j t ht => ?_⟩
  exact wants_none 4 Tryd.f4.params (by kernel_rfl) j t ht

set_option maxRecDepth 100000 in
/-- The card. -/
theorem merkleManyAsSpecified_card : Rows.MerkleManyAsSpecifiedCardSaid :=
  Claim7.holds_tied_plain_at .later [] _ _ _ _ merkleManyAsSpecified_said (fun _ h => by cases h) (by kernel_rfl) (fun _ h => by cases h) merkleManyAsSpecified_row_tie rfl ⟨rfl, rfl⟩ (by kernel_rfl) rfl merkleManyAsSpecified_plain (by kernel_rfl)
#print axioms merkleManyAsSpecified_card

end Go.Proofs.YtaihfkcoiagdaabDoor
