/-
  THE STATEMENT MerklePeaksGrow: the peaks that are appended to one after the other have the root of the elements so far as their top, and the peaks before are not changed; for every list of at most 40 digests.
-/
import Derived.Test.YtonfdgbohmcpjabDoorGn
namespace Go.Proofs.YtonfdgbohmcpjabDoor
open Go.RowKit Go.ChangeShapes Go.WideShapes Go.ChangeAt

theorem peaksGrow_all (A : Option Addr) (n c : Nat) (l : List Wm.Bs) (w : World) (tab : Tab w) (tab0 : Tab0 w) (hs : Sl w 16 A n (Ds l)) (hl : isD l) (hnc : n ≤ c) (hc : c ≤ 9223372036854775807) :
    Calls Tryd.prog 7 #[.slice A n c] w fun e w' => e = .returned (.bool true) ∧ Later w w' := by
  rcases Nat.lt_or_ge 40 n with h1 | h1
  · exact peaksGrow_big A n c w tab tab0 h1
  · exact peaksGrow_any A n c l w tab tab0 h1 hs hl hnc hc

set_option maxRecDepth 100000 in
theorem merklePeaksGrow_contract (H : Type) (enc : TypeId × Value → H) (W : World) (base : Nat) (args : Array Value) (ds gs : List (DataW H)) (before : List MemPlace)
    (hval : ∀ (j : Nat) t v, Tryd.f7.params[j]? = some t → args[j]? = some v → Value.okWide Tryd.prog W .any base t v)
    (hW : DataW.Whole enc Tryd.prog Tryd.f7.params.toList Rows.merklePeaksGrowSpec.vars false W args.toList ds gs before) (hL : laidMetH Tryd.prog Rows.merklePeaksGrowRow.laid W) :
    Calls Tryd.prog 7 args W fun e W' => ∃ v, e = .returned v ∧ Rows.merklePeaksGrowSpec.post enc Tryd.prog Tryd.f7 false true false false W args v W' := by
  have hW' := hW
  obtain ⟨tab0, tab⟩ : Tab0 W ∧ Tab W := tabs_of hL
  obtain ⟨p, q, hA0, hV, rfl, _, _⟩ := hW
  have hA : DataW.TrodAll enc Tryd.prog W 0 (fun _ => true) true Tryd.f7.params.toList args.toList ds p := hA0
  rw [Tryd.params7] at hA hval
  obtain ⟨v0, vs0, d0, ds0, p0, q0, hargs, rfl, rfl, h0, r0⟩ := trodAll_cons hA
  obtain ⟨rfl, rfl, rfl⟩ := trodAll_nil r0
  obtain rfl : args = #[v0] := by cases args; simp_all
  obtain ⟨rfl, rfl⟩ := trodVars_none hV
  obtain ⟨A0, n0, c0, l0, rfl, x0, y0, s0, z0⟩ := digs_arg Tryd.underlying22 Tryd.underlying31 Tryd.underlying5 (by kernel_rfl) (by kernel_rfl) (hval 0 22 v0 rfl rfl) h0
  clear hA0
  simp only [List.append_nil] at hW'
  refine (peaksGrow_all A0 n0 c0 l0 W tab tab0 s0 z0 x0 (by unfold maxLen at y0; omega)).mono fun e W' ⟨he, hw⟩ => ?_
  subst he
  exact ⟨_, rfl, law_post laidK rfl (by kernel_rfl) (by kernel_rfl) Tryd.underlying4 (by kernel_rfl) hW' rfl hw⟩
set_option maxRecDepth 100000 in
theorem merklePeaksGrow_met (os : Os) : laidMet Tryd.prog Rows.merklePeaksGrowRow.laid ((laidWorld2 os).forCall (fun _ _ => 0) ⟨#[], #[.slice none 0 0], []⟩).memory :=
  laidMet_of_run' 8 (by kernel_rfl) (by kernel_rfl)
set_option maxRecDepth 100000 in
theorem merklePeaksGrow_reads (os : Os) {H : Type} (enc : TypeId × Value → H) : ∃ places, DataW.whole enc Tryd.prog ((laidWorld2 os).forCall (fun _ _ => 0) ⟨#[], #[.slice none 0 0], []⟩).memory Tryd.f7.params.toList Rows.merklePeaksGrowSpec.vars false (#[.slice none 0 0] : Array Value).toList 8 = some ([.nil], [], places) :=
  ⟨[], by kernel_rfl⟩

set_option maxRecDepth 100000 in
theorem merklePeaksGrow_lifted (os : Os) (started : os.Started) (H : Type) (enc : TypeId × Value → H) (F : Stop.Interp) :
    ReturnsInHanded {} Tryd.checked os 7 .any ((OpenSpec.ofChange Rows.merklePeaksGrowSpec).preRow enc Tryd.prog Tryd.f7 Rows.merklePeaksGrowRow.domain false Rows.merklePeaksGrowRow.laid) (((OpenSpec.ofChange Rows.merklePeaksGrowSpec).at F).post enc Tryd.prog Tryd.f7 false true false false) := by
  obtain ⟨places, hx⟩ := merklePeaksGrow_reads os enc
  refine returnsInHanded_of_row (C := Tryd.checked) (s := OpenSpec.ofChange Rows.merklePeaksGrowSpec) ownK started (by kernel_rfl) Tryd.func7
    (witness_row_at (enc := enc) (C := Tryd.checked) false (laidWorld2 os) #[.slice none 0 0] rfl (by kernel_rfl) (by kernel_rfl) (by kernel_rfl)
      (OpenSpec.preRow_of_cond 8 hx (by kernel_rfl) (fun k hk => by cases hk) (by kernel_rfl) (merklePeaksGrow_met os))) ?_
  intro W base args ds gs before hval hW _ _ _ hL _ _
  exact merklePeaksGrow_contract H enc W base args ds gs before hval hW hL

set_option maxRecDepth 100000 in
theorem merklePeaksGrow_said : Rows.MerklePeaksGrowSaid :=
  OpenClaim.holds_of_cond 7 Tryd.f7 rfl rfl rfl rfl rfl rfl rfl ⟨rfl, rfl, rfl, rfl, rfl⟩ rfl rfl rfl rfl rfl (by kernel_rfl) Tryd.func7 (by kernel_rfl)
    (of_decide_eq_true (by kernel_rfl)) (by unfold Func.isWrapper; first | (rw [if_pos (by decide +kernel)]; kernel_rfl) | (rw [if_neg (by decide +kernel)]; exact ⟨rfl, rfl⟩))
    (fun os started H enc _ F => by rw [OpenClaim.pre_eq_preRow]; exact merklePeaksGrow_lifted os started H enc F)

set_option maxRecDepth 100000 in
theorem merklePeaksGrow_plain (f : FuncId) (fn : Func) (hf : Tryd.pinned.checked.prog.funcNamed "simulacrum/simulacrumlaw03.MerklePeaksGrow" = some f) (hfn : Tryd.pinned.checked.prog.funcs[f]? = some fn) :
    false = Tryd.pinned.checked.prog.looks [] ∧ ∀ (j : Nat) t, fn.params[j]? = some t → Tryd.pinned.checked.prog.wantsStandIn t = false := by
  obtain rfl : f = 7 := Option.some.inj ((show Tryd.prog.funcNamed "simulacrum/simulacrumlaw03.MerklePeaksGrow" = some 7 by kernel_rfl).symm.trans hf) |>.symm
  obtain rfl : fn = Tryd.f7 := (Option.some.inj (Tryd.func7.symm.trans hfn)).symm
  refine ⟨by kernel_rfl, fun j t ht => ?_⟩
  exact wants_none 7 Tryd.f7.params (by kernel_rfl) j t ht

set_option maxRecDepth 100000 in
/-- The card. -/
theorem merklePeaksGrow_card : Rows.MerklePeaksGrowCardSaid :=
  Claim7.holds_tied_plain_at .later [] _ _ _ _ merklePeaksGrow_said (fun _ h => by cases h) (by kernel_rfl) (fun _ h => by cases h) merklePeaksGrow_row_tie rfl ⟨rfl, rfl⟩ (by kernel_rfl) rfl merklePeaksGrow_plain (by kernel_rfl)
#print axioms merklePeaksGrow_card

end Go.Proofs.YtonfdgbohmcpjabDoor
