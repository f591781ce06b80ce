/-
  THE STATEMENT ImageReadsBack: what is encoded is decoded, and what is decoded without error is encoded.
-/
import Derived.Test.YtjfphjgmphlbhaaDoorJv
import Derived.Test.YtjfphjgmphlbhaaDoorJq
namespace Go.Proofs.YtjfphjgmphlbhaaDoor
open Go.RowKit Go.ChangeShapes Go.WideShapes Go.ChangeAt


set_option maxRecDepth 100000 in
theorem imageReadsBack_contract (H : Type) (enc : TypeId × Value → H) (W : World) (base : Nat) (args : Array Value) (ds gs : List (DataW H)) (before : List MemPlace)
    (hval : ∀ (j : Nat) t v, Tryd.f6.params[j]? = some t → args[j]? = some v → Value.okWide Tryd.prog W .any base t v)
    (hW : DataW.Whole enc Tryd.prog Tryd.f6.params.toList Rows.imageReadsBackSpec.vars false W args.toList ds gs before) (hL : laidMetH Tryd.prog Rows.imageReadsBackRow.laid W)
    (hwt0 : (DataW.weightsEach Tryd.prog (Tryd.f6.params.toList ++ (OpenSpec.ofChange Rows.imageReadsBackSpec).bare.plain.varTypes Tryd.prog) (ds ++ gs)).all (· ≤ reachBytes) = true) :
    Calls Tryd.prog 6 args W fun e W' => ∃ v, e = .returned v ∧ Rows.imageReadsBackSpec.post enc Tryd.prog Tryd.f6 false true false false W args v W' := by
  have hW' := hW
  have tab : Tab W := tab_of hL
  obtain ⟨p, q, hA0, hV, rfl, _, _⟩ := hW
  have hA : DataW.TrodAll enc Tryd.prog W 0 (fun _ => true) true Tryd.f6.params.toList args.toList ds p := hA0
  rw [Tryd.params6] at hA hval
  obtain ⟨v0, vs0, d0, ds0, p0, q0, hargs, rfl, rfl, h0, r0⟩ := trodAll_cons hA
  obtain ⟨v1, vs1, d1, ds1, p1, q1, rfl, rfl, rfl, h1, r1⟩ := trodAll_cons r0
  obtain ⟨rfl, rfl, rfl⟩ := trodAll_nil r1
  obtain rfl : args = #[v0, v1] := by cases args; simp_all
  obtain ⟨rfl, rfl⟩ := trodVars_none hV
  have hwt := hwt0
  rw [Tryd.params6] at hwt
  obtain ⟨en0, pg0, A0, n0, c0, L0', B0, m0, cd0, bb0, rfl, e1, e2, e3, e4, e5, e6, e7, e8, e9⟩ := image_arg_room (hval 0 29 v0 rfl rfl) h0
  obtain ⟨A1, n1, c1, b1, rfl, x1, y1, s1, z1⟩ := bytes_arg Tryd.underlying25 Tryd.underlying5 (by kernel_rfl) (hval 1 25 v1 rfl rfl) h1
  obtain rfl : n1 = b1.length := by have := s1.1; rw [U_length] at this; omega
  have hrm : fewQ L0' m0 = true → ∀ y ∈ L0', y.2.size ≤ 12000 := few_small (fun y hy => by
    have h9 := List.all_eq_true.1 hwt _ (DataW.weights_mem_each (j := 0) (t := 29) (d := d0) rfl rfl _ (e9 y hy))
    simpa using h9)
  clear hA0
  simp only [List.append_nil] at hW'
  refine (back_any en0 pg0 A0 n0 c0 L0' B0 m0 cd0 bb0 A1 c1 b1 W e4 e5 (Nat.le_trans e3.1 e3.2) (Nat.le_trans e6.1 e6.2) e1 e2 e6 e7 e8 hrm s1 z1 ⟨x1, y1⟩ tab).mono fun e W' ⟨he, hw⟩ => ?_
  subst he
  exact ⟨_, rfl, law_post laidK rfl (by kernel_rfl) (by kernel_rfl) Tryd.underlying4 (by kernel_rfl) hW' rfl hw⟩
set_option maxRecDepth 100000 in
theorem imageReadsBack_met (os : Os) : laidMet Tryd.prog Rows.imageReadsBackRow.laid ((laidWorldI os).forCall (fun _ _ => 0) ⟨#[], #[.agg #[.int .i64 0, .int .i64 0, .slice none 0 0, .slice none 0 0], .slice none 0 0], []⟩).memory :=
  laidMet_of_run' 8 (by kernel_rfl) (by kernel_rfl)
set_option maxRecDepth 100000 in
theorem imageReadsBack_reads (os : Os) {H : Type} (enc : TypeId × Value → H) : ∃ places, DataW.whole enc Tryd.prog ((laidWorldI os).forCall (fun _ _ => 0) ⟨#[], #[.agg #[.int .i64 0, .int .i64 0, .slice none 0 0, .slice none 0 0], .slice none 0 0], []⟩).memory Tryd.f6.params.toList Rows.imageReadsBackSpec.vars false (#[.agg #[.int .i64 0, .int .i64 0, .slice none 0 0, .slice none 0 0], .slice none 0 0] : Array Value).toList 8 = some ([.agg [.lit (.int .i64 0), .lit (.int .i64 0), .nil, .nil], .nil], [], places) :=
  ⟨[], by kernel_rfl⟩

set_option maxRecDepth 100000 in
theorem imageReadsBack_lifted (os : Os) (started : os.Started) (H : Type) (enc : TypeId × Value → H) (F : Stop.Interp) :
    ReturnsInHanded {} Tryd.checked os 6 .any ((OpenSpec.ofChange Rows.imageReadsBackSpec).preRow enc Tryd.prog Tryd.f6 Rows.imageReadsBackRow.domain false Rows.imageReadsBackRow.laid) (((OpenSpec.ofChange Rows.imageReadsBackSpec).at F).post enc Tryd.prog Tryd.f6 false true false false) := by
  obtain ⟨places, hx⟩ := imageReadsBack_reads os enc
  refine returnsInHanded_of_row (C := Tryd.checked) (s := OpenSpec.ofChange Rows.imageReadsBackSpec) ownK started (by kernel_rfl) Tryd.func6
    (witness_row_at (enc := enc) (C := Tryd.checked) false (laidWorldI os) #[.agg #[.int .i64 0, .int .i64 0, .slice none 0 0, .slice none 0 0], .slice none 0 0] rfl (by kernel_rfl) (by kernel_rfl) (by kernel_rfl)
      (OpenSpec.preRow_of_cond 8 hx (by kernel_rfl) (fun k hk => by cases hk) (by kernel_rfl) (imageReadsBack_met os))) ?_
  intro W base args ds gs before hval hW _ _ hwt hL _ _
  exact imageReadsBack_contract H enc W base args ds gs before hval hW hL hwt

set_option maxRecDepth 100000 in
theorem imageReadsBack_said : Rows.ImageReadsBackSaid :=
  OpenClaim.holds_of_cond 6 Tryd.f6 rfl rfl rfl rfl rfl rfl rfl ⟨rfl, rfl, rfl, rfl, rfl⟩ rfl rfl rfl rfl rfl (by kernel_rfl) Tryd.func6 (by kernel_rfl)
    (of_decide_eq_true (by kernel_rfl)) (by unfold Func.isWrapper; first | (rw [if_pos (by decide +kernel)]; kernel_rfl) | (rw [if_neg (by decide +kernel)]; exact ⟨rfl, rfl⟩))
    (fun os started H enc _ F => by rw [OpenClaim.pre_eq_preRow]; exact imageReadsBack_lifted os started H enc F)

set_option maxRecDepth 100000 in
theorem imageReadsBack_plain (f : FuncId) (fn : Func) (hf : Tryd.pinned.checked.prog.funcNamed "simulacrum/simulacrumlaw09.ImageReadsBack" = some f) (hfn : Tryd.pinned.checked.prog.funcs[f]? = some fn) :
    false = Tryd.pinned.checked.prog.looks [] ∧ ∀ (j : Nat) t, fn.params[j]? = some t → Tryd.pinned.checked.prog.wantsStandIn t = false := by
  obtain rfl : f = 6 := Option.some.inj ((show Tryd.prog.funcNamed "simulacrum/simulacrumlaw09.ImageReadsBack" = some 6 by kernel_rfl).symm.trans hf) |>.symm
  obtain rfl : fn = Tryd.f6 := (Option.some.inj (Tryd.func6.symm.trans hfn)).symm
  refine ⟨by kernel_rfl, fun j t ht => ?_⟩
  exact wants_none 6 Tryd.f6.params (by kernel_rfl) j t ht

set_option maxRecDepth 100000 in
/-- The card. -/
theorem imageReadsBack_card : Rows.ImageReadsBackCardSaid :=
  Claim7.holds_tied_plain_at .later [] _ _ _ _ imageReadsBack_said (fun _ h => by cases h) (by kernel_rfl) (fun _ h => by cases h) imageReadsBack_row_tie rfl ⟨rfl, rfl⟩ (by kernel_rfl) rfl imageReadsBack_plain (by kernel_rfl)
#print axioms imageReadsBack_card

end Go.Proofs.YtjfphjgmphlbhaaDoor
