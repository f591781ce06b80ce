/-
  THE STATEMENT LexerNumbersAreExact: a number, in decimal digits with zeros before or without, and in hexadecimal ones, is read as it; one with a digit more than the greatest is refused.
-/
import Derived.Test.YtjopadfkdpcjmaaDoorLexZ5a
import Derived.Test.YtjopadfkdpcjmaaDoorLexRc
namespace Go.Proofs.YtjopadfkdpcjmaaDoor
open Go.RowKit Go.ChangeShapes Go.WideShapes Go.ChangeAt

theorem u8_argL {H : Type} {enc : TypeId × Value → H} {P : Program} {W : World} {r : Reach} {b0 : Nat} {v : Value} {d : DataW H} {p : List MemPlace} {t : TypeId} (ht : P.underlying t = some (.int .u8)) (hv : Value.okWide P W r b0 t v) (h : DataW.Trod enc P W 0 (fun _ => true) true t v d p) : ∃ n : Int, v = .int .u8 n ∧ 0 ≤ n ∧ n ≤ 255 := by
  obtain ⟨n, rfl, _, _, hw⟩ := open_int ht hv h
  have h1 : IntKind.u8.min = 0 := rfl
  have h2 : IntKind.u8.max = 255 := rfl
  simp only [Lit.wf, Bool.and_eq_true, decide_eq_true_eq] at hw
  exact ⟨n, rfl, by omega, by omega⟩
set_option maxRecDepth 100000 in
theorem numbers_any (a b c : Int) (w : World) (ha : 0 ≤ a ∧ a ≤ 4294967295) (hb : 0 ≤ b ∧ b ≤ 255) (hc : 0 ≤ c ∧ c ≤ 4294967295) (tab : Tab10 w) :
    Calls Tryd.prog 8 #[.int .u32 a, .int .u8 b, .int .u32 c] w fun e w' => e = .returned (.bool true) ∧ Later w w' := by
  obtain ⟨n, rfl⟩ : ∃ n : Nat, a = n := ⟨a.toNat, by omega⟩
  obtain ⟨z, rfl⟩ : ∃ n : Nat, b = n := ⟨b.toNat, by omega⟩
  obtain ⟨m, rfl⟩ : ∃ n : Nat, c = n := ⟨c.toNat, by omega⟩
  have hn : n ≤ 4294967295 := by omega
  refine numbers_walk n z m w hn (by omega) (by omega) (Lib.hid fun w' h => sanity_any w' (tab.keep h)) ⟨(Lx.dec n).toArray⟩ (L_mk _) (Lib.hid fun ad k w' hs l => ?_) (Lib.hid fun ad k w' hs _ => ?_)
  · have h := print_any (some ad) 1 k [numT n] w' hs rfl (by unfold maxLen; omega) (tab.keep l)
    rw [print_num hn] at h
    exact h
  · have h := rprint_any (some ad) 1 k [numT 4294967295] w' hs rfl (by unfold maxLen; omega)
    rw [print_num (Nat.le_refl _), dec_max] at h
    exact h

set_option maxRecDepth 100000 in
theorem lexerNumbersAreExact_contract (H : Type) (enc : TypeId × Value → H) (W : World) (base : Nat) (args : Array Value) (ds gs : List (DataW H)) (before : List MemPlace)
    (hval : ∀ (j : Nat) t v, Tryd.f8.params[j]? = some t → args[j]? = some v → Value.okWide Tryd.prog W .any base t v)
    (hW : DataW.Whole enc Tryd.prog Tryd.f8.params.toList Rows.lexerNumbersAreExactSpec.vars false W args.toList ds gs before) (hL : laidMetH Tryd.prog Rows.lexerNumbersAreExactRow.laid W) :
    Calls Tryd.prog 8 args W fun e W' => ∃ v, e = .returned v ∧ Rows.lexerNumbersAreExactSpec.post enc Tryd.prog Tryd.f8 false true false false W args v W' := by
  have hW' := hW
  have tab : Tab10 W := tab10_of hL
  obtain ⟨p, q, hA0, hV, rfl, _, _⟩ := hW
  have hA : DataW.TrodAll enc Tryd.prog W 0 (fun _ => true) true Tryd.f8.params.toList args.toList ds p := hA0
  rw [Tryd.params8] at hA hval
  obtain ⟨v0, vs0, d0, ds0, p0, q0, hargs, rfl, rfl, h0, r0⟩ := trodAll_cons hA
  obtain ⟨v1, vs1, d1, ds1, p1, q1, rfl, rfl, rfl, h1, r1⟩ := trodAll_cons r0
  obtain ⟨v2, vs2, d2, ds2, p2, q2, rfl, rfl, rfl, h2, r2⟩ := trodAll_cons r1
  obtain ⟨rfl, rfl, rfl⟩ := trodAll_nil r2
  obtain rfl : args = #[v0, v1, v2] := by cases args; simp_all
  obtain ⟨rfl, rfl⟩ := trodVars_none hV
  obtain ⟨n0, rfl, x0, y0⟩ := u32_arg Tryd.underlying63 (hval 0 63 v0 rfl rfl) h0
  obtain ⟨n1, rfl, x1, y1⟩ := u8_argL Tryd.underlying5 (hval 1 5 v1 rfl rfl) h1
  obtain ⟨n2, rfl, x2, y2⟩ := u32_arg Tryd.underlying63 (hval 2 63 v2 rfl rfl) h2
  clear hA0
  simp only [List.append_nil] at hW'
  refine (numbers_any n0 n1 n2 W ⟨x0, y0⟩ ⟨x1, y1⟩ ⟨x2, y2⟩ tab).mono fun e W' ⟨he, hw⟩ => ?_
  subst he
  exact ⟨_, rfl, law_post laidK rfl (by kernel_rfl) (by kernel_rfl) Tryd.underlying4 (by kernel_rfl) hW' rfl hw⟩
set_option maxRecDepth 100000 in
theorem lexerNumbersAreExact_met (os : Os) : laidMet Tryd.prog Rows.lexerNumbersAreExactRow.laid ((laidWorld os).forCall (fun _ _ => 0) ⟨#[], #[.int .u32 0, .int .u8 0, .int .u32 0], []⟩).memory :=
  laidMet_of_run' 8 (by kernel_rfl) (by kernel_rfl)
set_option maxRecDepth 100000 in
theorem lexerNumbersAreExact_reads (os : Os) {H : Type} (enc : TypeId × Value → H) : ∃ places, DataW.whole enc Tryd.prog ((laidWorld os).forCall (fun _ _ => 0) ⟨#[], #[.int .u32 0, .int .u8 0, .int .u32 0], []⟩).memory Tryd.f8.params.toList Rows.lexerNumbersAreExactSpec.vars false (#[.int .u32 0, .int .u8 0, .int .u32 0] : Array Value).toList 8 = some ([.lit (.int .u32 0), .lit (.int .u8 0), .lit (.int .u32 0)], [], places) :=
  ⟨[], by kernel_rfl⟩

set_option maxRecDepth 100000 in
theorem lexerNumbersAreExact_lifted (os : Os) (started : os.Started) (H : Type) (enc : TypeId × Value → H) (F : Stop.Interp) :
    ReturnsInHanded {} Tryd.checked os 8 .any ((OpenSpec.ofChange Rows.lexerNumbersAreExactSpec).preRow enc Tryd.prog Tryd.f8 Rows.lexerNumbersAreExactRow.domain false Rows.lexerNumbersAreExactRow.laid) (((OpenSpec.ofChange Rows.lexerNumbersAreExactSpec).at F).post enc Tryd.prog Tryd.f8 false true false false) := by
  obtain ⟨places, hx⟩ := lexerNumbersAreExact_reads os enc
  refine returnsInHanded_of_row (C := Tryd.checked) (s := OpenSpec.ofChange Rows.lexerNumbersAreExactSpec) ownK started (by kernel_rfl) Tryd.func8
    (witness_row_at (enc := enc) (C := Tryd.checked) false (laidWorld os) #[.int .u32 0, .int .u8 0, .int .u32 0] rfl (by kernel_rfl) (by kernel_rfl) (by kernel_rfl)
      (OpenSpec.preRow_of_cond 8 hx (by kernel_rfl) (fun k hk => by cases hk) (by kernel_rfl) (lexerNumbersAreExact_met os))) ?_
  intro W base args ds gs before hval hW _ _ _ hL _ _
  exact lexerNumbersAreExact_contract H enc W base args ds gs before hval hW hL

set_option maxRecDepth 100000 in
theorem lexerNumbersAreExact_said : Rows.LexerNumbersAreExactSaid :=
  OpenClaim.holds_of_cond 8 Tryd.f8 rfl rfl rfl rfl rfl rfl rfl ⟨rfl, rfl, rfl, rfl, rfl⟩ rfl rfl rfl rfl rfl (by kernel_rfl) Tryd.func8 (by kernel_rfl)
    (of_decide_eq_true (by kernel_rfl)) (by unfold Func.isWrapper; first | (rw [if_pos (by decide +kernel)]; kernel_rfl) | (rw [if_neg (by decide +kernel)]; exact ⟨rfl, rfl⟩))
    (fun os started H enc _ F => by rw [OpenClaim.pre_eq_preRow]; exact lexerNumbersAreExact_lifted os started H enc F)

set_option maxRecDepth 100000 in
theorem lexerNumbersAreExact_plain (f : FuncId) (fn : Func) (hf : Tryd.pinned.checked.prog.funcNamed "simulacrum/simulacrumlaw07.LexerNumbersAreExact" = some f) (hfn : Tryd.pinned.checked.prog.funcs[f]? = some fn) :
    false = Tryd.pinned.checked.prog.looks [] ∧ ∀ (j : Nat) t, fn.params[j]? = some t → Tryd.pinned.checked.prog.wantsStandIn t = false := by
  obtain rfl : f = 8 := Option.some.inj ((show Tryd.prog.funcNamed "simulacrum/simulacrumlaw07.LexerNumbersAreExact" = some 8 by kernel_rfl).symm.trans hf) |>.symm
  obtain rfl : fn = Tryd.f8 := (Option.some.inj (Tryd.func8.symm.trans hfn)).symm
  refine ⟨by kernel_rfl, fun j t ht => ?_⟩
  exact wants_none 8 Tryd.f8.params (by kernel_rfl) j t ht

set_option maxRecDepth 100000 in
/-- The card. -/
theorem lexerNumbersAreExact_card : Rows.LexerNumbersAreExactCardSaid :=
  Claim7.holds_tied_plain_at .later [] _ _ _ _ lexerNumbersAreExact_said (fun _ h => by cases h) (by kernel_rfl) (fun _ h => by cases h) lexerNumbersAreExact_row_tie rfl ⟨rfl, rfl⟩ (by kernel_rfl) rfl lexerNumbersAreExact_plain (by kernel_rfl)
#print axioms lexerNumbersAreExact_card

end Go.Proofs.YtjopadfkdpcjmaaDoor
