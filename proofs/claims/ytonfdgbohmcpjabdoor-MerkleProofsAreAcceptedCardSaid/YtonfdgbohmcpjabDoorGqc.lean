/-
  THE STATEMENT MerkleProofsAreAccepted: the checks accept the proofs, and CheckConsistency refuses other roots; for every list of 1 to 40 digests, position, m, choice of positions and other digest.
-/
import Derived.Test.YtonfdgbohmcpjabDoorGq
import Derived.Test.YtonfdgbohmcpjabDoorGt
namespace Go.Proofs.YtonfdgbohmcpjabDoor
open Go.RowKit Go.ChangeShapes Go.WideShapes Go.ChangeAt

theorem acc_all (A : Option Addr) (n c : Nat) (i m ch : Int) (x : Wm.Bs) (l : List Wm.Bs) (w : World) (tab : Tab w) (tab0 : Tab0 w) (hi0 : 0 ≤ i) (hi1 : i < 256) (hm0 : 0 ≤ m) (hm1 : m < 256) (hc0 : 0 ≤ ch) (hc1 : ch < 18446744073709551616) (hx : x.length = 16 ∧ Wm.isBs x) (hs : Sl w 16 A n (Ds l)) (hl : isD l) (hnc : n ≤ c) (hc : c ≤ 9223372036854775807) :
    Calls Tryd.prog 6 #[.slice A n c, .int .u8 i, .int .u8 m, .int .u64 ch, .agg (U x).toArray] w fun e w' => e = .returned (.bool true) ∧ Later w w' := by
  rcases Nat.eq_zero_or_pos n with h0 | h0
  · exact acc_big A n c i m ch x w tab tab0 (.inl h0)
  · rcases Nat.lt_or_ge 40 n with h1 | h1
    · exact acc_big A n c i m ch x w tab tab0 (.inr h1)
    · obtain ⟨b, rfl⟩ := Int.eq_ofNat_of_zero_le hc0
      exact acc_any A n c i m b x l w tab tab0 h0 h1 hi0 hi1 hm0 hm1 (by omega) hx hs hl hnc hc

set_option maxRecDepth 100000 in
theorem merkleProofsAreAccepted_contract (H : Type) (enc : TypeId × Value → H) (W : World) (base : Nat) (args : Array Value) (ds gs : List (DataW H)) (before : List MemPlace)
    (hval : ∀ (j : Nat) t v, Tryd.f6.params[j]? = some t → args[j]? = some v → Value.okWide Tryd.prog W .any base t v)
    (hW : DataW.Whole enc Tryd.prog Tryd.f6.params.toList Rows.merkleProofsAreAcceptedSpec.vars false W args.toList ds gs before) (hL : laidMetH Tryd.prog Rows.merkleProofsAreAcceptedRow.laid W) :
    Calls Tryd.prog 6 args W fun e W' => ∃ v, e = .returned v ∧ Rows.merkleProofsAreAcceptedSpec.post enc Tryd.prog Tryd.f6 false true false false W args v W' := by
  have hW' := hW
  obtain ⟨tab0, tab⟩ : Tab0 W ∧ Tab W := tabs_of hL
  obtain ⟨p, q, hA0, hV, rfl, _, _⟩ := hW
  have hA : DataW.TrodAll enc Tryd.prog W 0 (fun _ => true) true Tryd.f6.params.toList args.toList ds p := hA0
  rw [Tryd.params6] at hA hval
  obtain ⟨v0, vs0, d0, ds0, p0, q0, hargs, rfl, rfl, h0, r0⟩ := trodAll_cons hA
  obtain ⟨v1, vs1, d1, ds1, p1, q1, rfl, rfl, rfl, h1, r1⟩ := trodAll_cons r0
  obtain ⟨v2, vs2, d2, ds2, p2, q2, rfl, rfl, rfl, h2, r2⟩ := trodAll_cons r1
  obtain ⟨v3, vs3, d3, ds3, p3, q3, rfl, rfl, rfl, h3, r3⟩ := trodAll_cons r2
  obtain ⟨v4, vs4, d4, ds4, p4, q4, rfl, rfl, rfl, h4, r4⟩ := trodAll_cons r3
  obtain ⟨rfl, rfl, rfl⟩ := trodAll_nil r4
  obtain rfl : args = #[v0, v1, v2, v3, v4] := by cases args; simp_all
  obtain ⟨rfl, rfl⟩ := trodVars_none hV
  obtain ⟨A0, n0, c0, l0, rfl, x0, y0, s0, z0⟩ := digs_arg Tryd.underlying22 Tryd.underlying31 Tryd.underlying5 (by kernel_rfl) (by kernel_rfl) (hval 0 22 v0 rfl rfl) h0
  obtain ⟨n1, rfl, _, _, w1⟩ := open_int Tryd.underlying5 (hval 1 5 v1 rfl rfl) h1
  have x1 : 0 ≤ n1 ∧ n1 ≤ 255 := by
    have e1 : IntKind.u8.min = 0 := rfl
    have e2 : IntKind.u8.max = 255 := rfl
    simp only [Lit.wf, Bool.and_eq_true, decide_eq_true_eq] at w1
    omega
  obtain ⟨n2, rfl, _, _, w2⟩ := open_int Tryd.underlying5 (hval 2 5 v2 rfl rfl) h2
  have x2 : 0 ≤ n2 ∧ n2 ≤ 255 := by
    have e1 : IntKind.u8.min = 0 := rfl
    have e2 : IntKind.u8.max = 255 := rfl
    simp only [Lit.wf, Bool.and_eq_true, decide_eq_true_eq] at w2
    omega
  obtain ⟨n3, rfl, _, _, w3⟩ := open_int Tryd.underlying55 (hval 3 55 v3 rfl rfl) h3
  have x3 : 0 ≤ n3 ∧ n3 ≤ 18446744073709551615 := by
    have e1 : IntKind.u64.min = 0 := rfl
    have e2 : IntKind.u64.max = 18446744073709551615 := rfl
    simp only [Lit.wf, Bool.and_eq_true, decide_eq_true_eq] at w3
    omega
  obtain ⟨b4, x4, y4, rfl⟩ := arr_arg Tryd.underlying31 Tryd.underlying5 (by kernel_rfl) (by kernel_rfl) (hval 4 31 v4 rfl rfl) h4
  clear hA0
  simp only [List.append_nil] at hW'
  refine (acc_all A0 n0 c0 n1 n2 n3 b4 l0 W tab tab0 x1.1 (by omega) x2.1 (by omega) x3.1 (by omega) ⟨x4, y4⟩ s0 z0 x0 (by unfold maxLen at y0; omega)).mono fun e W' ⟨he, hw⟩ => ?_
  subst he
  exact ⟨_, rfl, law_post laidK rfl (by kernel_rfl) (by kernel_rfl) Tryd.underlying4 (by kernel_rfl) hW' rfl hw⟩
set_option maxRecDepth 100000 in
theorem merkleProofsAreAccepted_met (os : Os) : laidMet Tryd.prog Rows.merkleProofsAreAcceptedRow.laid ((laidWorld2 os).forCall (fun _ _ => 0) ⟨#[], #[.slice none 0 0, .int .u8 0, .int .u8 0, .int .u64 0, .agg #[.int .u8 0, .int .u8 0, .int .u8 0, .int .u8 0, .int .u8 0, .int .u8 0, .int .u8 0, .int .u8 0, .int .u8 0, .int .u8 0, .int .u8 0, .int .u8 0, .int .u8 0, .int .u8 0, .int .u8 0, .int .u8 0]], []⟩).memory :=
  laidMet_of_run' 8 (by kernel_rfl) (by kernel_rfl)
set_option maxRecDepth 100000 in
theorem merkleProofsAreAccepted_reads (os : Os) {H : Type} (enc : TypeId × Value → H) : ∃ places, DataW.whole enc Tryd.prog ((laidWorld2 os).forCall (fun _ _ => 0) ⟨#[], #[.slice none 0 0, .int .u8 0, .int .u8 0, .int .u64 0, .agg #[.int .u8 0, .int .u8 0, .int .u8 0, .int .u8 0, .int .u8 0, .int .u8 0, .int .u8 0, .int .u8 0, .int .u8 0, .int .u8 0, .int .u8 0, .int .u8 0, .int .u8 0, .int .u8 0, .int .u8 0, .int .u8 0]], []⟩).memory Tryd.f6.params.toList Rows.merkleProofsAreAcceptedSpec.vars false (#[.slice none 0 0, .int .u8 0, .int .u8 0, .int .u64 0, .agg #[.int .u8 0, .int .u8 0, .int .u8 0, .int .u8 0, .int .u8 0, .int .u8 0, .int .u8 0, .int .u8 0, .int .u8 0, .int .u8 0, .int .u8 0, .int .u8 0, .int .u8 0, .int .u8 0, .int .u8 0, .int .u8 0]] : Array Value).toList 8 = some ([.nil, .lit (.int .u8 0), .lit (.int .u8 0), .lit (.int .u64 0), .agg [.lit (.int .u8 0), .lit (.int .u8 0), .lit (.int .u8 0), .lit (.int .u8 0), .lit (.int .u8 0), .lit (.int .u8 0), .lit (.int .u8 0), .lit (.int .u8 0), .lit (.int .u8 0), .lit (.int .u8 0), .lit (.int .u8 0), .lit (.int .u8 0), .lit (.int .u8 0), .lit (.int .u8 0), .lit (.int .u8 0), .lit (.int .u8 0)]], [], places) :=
  ⟨[], by kernel_rfl⟩

set_option maxRecDepth 100000 in
theorem merkleProofsAreAccepted_lifted (os : Os) (started : os.Started) (H : Type) (enc : TypeId × Value → H) (F : Stop.Interp) :
    ReturnsInHanded {} Tryd.checked os 6 .any ((OpenSpec.ofChange Rows.merkleProofsAreAcceptedSpec).preRow enc Tryd.prog Tryd.f6 Rows.merkleProofsAreAcceptedRow.domain false Rows.merkleProofsAreAcceptedRow.laid) (((OpenSpec.ofChange Rows.merkleProofsAreAcceptedSpec).at F).post enc Tryd.prog Tryd.f6 false true false false) := by
  obtain ⟨places, hx⟩ := merkleProofsAreAccepted_reads os enc
  refine returnsInHanded_of_row (C := Tryd.checked) (s := OpenSpec.ofChange Rows.merkleProofsAreAcceptedSpec) ownK started (by kernel_rfl) Tryd.func6
    (witness_row_at (enc := enc) (C := Tryd.checked) false (laidWorld2 os) #[.slice none 0 0, .int .u8 0, .int .u8 0, .int .u64 0, .agg #[.int .u8 0, .int .u8 0, .int .u8 0, .int .u8 0, .int .u8 0, .int .u8 0, .int .u8 0, .int .u8 0, .int .u8 0, .int .u8 0, .int .u8 0, .int .u8 0, .int .u8 0, .int .u8 0, .int .u8 0, .int .u8 0]] rfl (by kernel_rfl) (by kernel_rfl) (by kernel_rfl)
      (OpenSpec.preRow_of_cond 8 hx (by kernel_rfl) (fun k hk => by cases hk) (by kernel_rfl) (merkleProofsAreAccepted_met os))) ?_
  intro W base args ds gs before hval hW _ _ _ hL _ _
  exact merkleProofsAreAccepted_contract H enc W base args ds gs before hval hW hL

set_option maxRecDepth 100000 in
theorem merkleProofsAreAccepted_said : Rows.MerkleProofsAreAcceptedSaid :=
  OpenClaim.holds_of_cond 6 Tryd.f6 rfl rfl rfl rfl rfl rfl rfl ⟨rfl, rfl, rfl, rfl, rfl⟩ rfl rfl rfl rfl rfl (by kernel_rfl) Tryd.func6 (by kernel_rfl)
    (of_decide_eq_true (by kernel_rfl)) (by unfold Func.isWrapper; first | (rw [if_pos (by decide +kernel)]; kernel_rfl) | (rw [if_neg (by decide +kernel)]; exact ⟨rfl, rfl⟩))
    (fun os started H enc _ F => by rw [OpenClaim.pre_eq_preRow]; exact merkleProofsAreAccepted_lifted os started H enc F)

set_option maxRecDepth 100000 in
theorem merkleProofsAreAccepted_plain (f : FuncId) (fn : Func) (hf : Tryd.pinned.checked.prog.funcNamed "simulacrum/simulacrumlaw03.MerkleProofsAreAccepted" = some f) (hfn : Tryd.pinned.checked.prog.funcs[f]? = some fn) :
    false = Tryd.pinned.checked.prog.looks [] ∧ ∀ (j : Nat) t, fn.params[j]? = some t → Tryd.pinned.checked.prog.wantsStandIn t = false := by
  obtain rfl : f = 6 := Option.some.inj ((show Tryd.prog.funcNamed "simulacrum/simulacrumlaw03.MerkleProofsAreAccepted" = some 6 by kernel_rfl).symm.trans hf) |>.symm
  obtain rfl : fn = Tryd.f6 := (Option.some.inj (Tryd.func6.symm.trans hfn)).symm
  refine ⟨by kernel_rfl, fun j t ht => ?_⟩
  exact wants_none 6 Tryd.f6.params (by kernel_rfl) j t ht

set_option maxRecDepth 100000 in
/-- The card. -/
theorem merkleProofsAreAccepted_card : Rows.MerkleProofsAreAcceptedCardSaid :=
  Claim7.holds_tied_plain_at .later [] _ _ _ _ merkleProofsAreAccepted_said (fun _ h => by cases h) (by kernel_rfl) (fun _ h => by cases h) merkleProofsAreAccepted_row_tie rfl ⟨rfl, rfl⟩ (by kernel_rfl) rfl merkleProofsAreAccepted_plain (by kernel_rfl)
#print axioms merkleProofsAreAccepted_card

end Go.Proofs.YtonfdgbohmcpjabDoor
