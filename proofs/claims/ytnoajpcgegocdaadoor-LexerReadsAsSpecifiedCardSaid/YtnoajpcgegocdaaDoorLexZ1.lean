/-
  THE STATEMENT LexerReadsAsSpecified: tokens and places are what the reference says.
-/
import Derived.Test.YtnoajpcgegocdaaDoorLexU
import Derived.Test.YtnoajpcgegocdaaDoorLexV
import Derived.Test.YtnoajpcgegocdaaDoorLexN
import Derived.Test.YtnoajpcgegocdaaDoorLexP
namespace Go.Proofs.YtnoajpcgegocdaaDoor
open Go.RowKit Go.ChangeShapes Go.WideShapes Go.ChangeAt

theorem toksF_count : ∀ (f p : Nat) (l : Lx.Str), (Lx.toksF f p l).1.length ≤ l.length := by
  intro f
  induction f with
  | zero => intro p l; exact Nat.zero_le _
  | succ f ih =>
    intro p l
    cases l with
    | nil => exact Nat.zero_le _
    | cons c r =>
      unfold Lx.toksF
      rw [List.length_cons]
      split
      · have := ih (p + 1) r; omega
      split
      · have := ih (p + (Lx.rest r + 1)) (r.drop (Lx.rest r)); rw [List.length_drop] at this; omega
      split
      · have := ih (p + (Lx.tok1 (c :: r)).2.1) (r.drop ((Lx.tok1 (c :: r)).2.1 - 1))
        rw [List.length_drop] at this
        unfold Lx.cat
        split
        · rw [List.length_append, List.length_singleton]; omega
        · exact Nat.zero_le _
      · exact Nat.zero_le _
theorem Tokens_count (l : Lx.Str) : (Lx.Tokens l).1.length ≤ l.length := by
  unfold Lx.Tokens
  split
  · exact toksF_count _ _ _
  · exact Nat.zero_le _

set_option maxRecDepth 100000 in
theorem reads_long (s : ByteArray) (a : Int) (w : World) (h : ¬ s.size ≤ 3000) (tab : Tab10 w) :
    Calls Tryd.prog 3 #[.string s, .int .i64 a] w fun e w' => e = .returned (.bool true) ∧ Later w w' := by
  have d0 : decide ((3000 : Int) < (s.size : Int)) = true := decide_eq_true (by omega)
  have gi : (3000 : Int) < (s.size : Int) := by omega
  have HN := Lib.hid fun w' (h : Later w w') => sanity_any w' (tab.keep h)
  clear h tab
  go_enter Tryd.func3, Tryd.ntmps3
  go_wp2_with (first
    | (go_at_call 9; refine (HN.out _ (later0 _)).mono ?_; rintro e w2 ⟨rfl, l2⟩))
  go_ret
  exact ⟨rfl, l2⟩
set_option maxRecDepth 100000 in
set_option maxHeartbeats 4000000 in
theorem reads_short (s : ByteArray) (a : Int) (w : World) (h : s.size ≤ 3000) (ha : -9223372036854775808 ≤ a ∧ a ≤ 9223372036854775807) (tab : Tab10 w) :
    Calls Tryd.prog 3 #[.string s, .int .i64 a] w fun e w' => e = .returned (.bool true) ∧ Later w w' := by
  have d0 : decide ((3000 : Int) < (s.size : Int)) = false := decide_eq_false (by omega)
  have gi : ¬ (3000 : Int) < (s.size : Int) := by omega
  have HN := Lib.hid fun w' (h : Later w w') => sanity_any w' (tab.keep h)
  have hcount := Tokens_count (L s)
  rw [L_len] at hcount
  have HT := Lib.hid fun w' => tokens_any s w'
  have HR := Lib.hid fun w' => rtokens_any s w'
  obtain ⟨r, hr⟩ : ∃ r, Lx.Tokens (L s) = r := ⟨_, rfl⟩
  rw [hr] at HT HR hcount
  clear hr
  obtain ⟨T, p0, ee⟩ := r
  unfold GotToks at HT
  unfold GotRead at HR
  simp only at HT HR hcount
  have HP := Lib.hid fun w' => place_any s a w' (by omega) ha
  have HQ := Lib.hid fun w' => rplace_any s a w' (by omega) ha
  unfold Wh at HQ
  obtain ⟨q, hq⟩ : ∃ q, placeOf (L s) a = q := ⟨_, rfl⟩
  rw [hq] at HP HQ
  clear hq
  obtain ⟨x0, y0⟩ := q
  simp only at HP HQ
  obtain ⟨p, hp⟩ : ∃ p : Int, (p0 : Int) = p := ⟨_, rfl⟩
  obtain ⟨x, hx⟩ : ∃ p : Int, (x0 : Int) = p := ⟨_, rfl⟩
  obtain ⟨y, hy⟩ : ∃ p : Int, (y0 : Int) = p := ⟨_, rfl⟩
  rw [hp] at HT HR
  rw [hx, hy] at HP HQ
  clear hp hx hy tab
  have hE := fun w' => pb_eq p ee w'
  go_enter Tryd.func3, Tryd.ntmps3
  go_wp2_with (first
    | (go_at_call 10; (with_reducible refine (HT.out _).mono ?_); rintro e w1 ⟨A1, n1, c1, rfl, hn1, _, _, sl1, l1⟩; have lw := Later.trans_ l1 (later1 w1 (.cells #[.int .i64 p, .int .i64 ee] 26)); replace sl1 := sl1.keep (later1 w1 (.cells #[.int .i64 p, .int .i64 ee] 26)); have b6 := Blk.new w1 26 #[.int .i64 p, .int .i64 ee] [.int .i64 p, .int .i64 ee] rfl)
    | (go_at_call 11; (with_reducible refine (HR.out _).mono ?_); rintro e w2 ⟨A2, n2, c2, he, hn2, _, _, sl2, l2⟩; rw [show n2 = n1 by omega] at he sl2; subst he; replace sl1 := (sl1.keep l2).keep (later1 w2 (.cells #[.slice A2 n1 c2, .int .i64 p, .int .i64 ee] 30)); replace sl2 := sl2.keep (later1 w2 (.cells #[.slice A2 n1 c2, .int .i64 p, .int .i64 ee] 30)); replace b6 := (b6.keep l2).keep (later1 w2 (.cells #[.slice A2 n1 c2, .int .i64 p, .int .i64 ee] 30)); have b7 := Blk.new w2 30 #[.slice A2 n1 c2, .int .i64 p, .int .i64 ee] [.slice A2 n1 c2, .int .i64 p, .int .i64 ee] rfl; replace lw := Later.trans_ (Later.trans_ lw l2) (later1 w2 (.cells #[.slice A2 n1 c2, .int .i64 p, .int .i64 ee] 30)))
    | (go_at_call 12; (with_reducible refine (HP.out _).mono ?_); rintro e w9 ⟨rfl, hw9⟩; rw [hw9]; clear hw9 w9)
    | (go_at_call 13; (with_reducible refine (HQ.out _).mono ?_); rintro e w3 ⟨rfl, l3⟩; replace b6 := (b6.keep l3).keep (later1 w3 (.cells #[.int .i64 x, .int .i64 y] 35)); replace b7 := (b7.keep l3).keep (later1 w3 (.cells #[.int .i64 x, .int .i64 y] 35)); have b10 := Blk.new w3 35 #[.int .i64 x, .int .i64 y] [.int .i64 x, .int .i64 y] rfl; replace sl1 := (sl1.keep l3).keep (later1 w3 (.cells #[.int .i64 x, .int .i64 y] 35)); replace sl2 := (sl2.keep l3).keep (later1 w3 (.cells #[.int .i64 x, .int .i64 y] 35)); replace lw := Later.trans_ (Later.trans_ lw l3) (later1 w3 (.cells #[.int .i64 x, .int .i64 y] 35)))
    | (go_at_call 9; refine (HN.out _ lw).mono ?_; rintro e w4 ⟨rfl, l4⟩; replace b6 := b6.keep l4; replace b7 := b7.keep l4; replace b10 := b10.keep l4; replace sl1 := sl1.keep l4; replace sl2 := sl2.keep l4; replace lw := Later.trans_ lw l4; have c60 := b6.cell (j := 0) (v := .int .i64 p) rfl; have c61 := b6.cell (j := 1) (v := .int .i64 ee) rfl; have c70 := b7.cell (j := 0) (v := .slice A2 n1 c2) rfl; have c71 := b7.cell (j := 1) (v := .int .i64 p) rfl; have c72 := b7.cell (j := 2) (v := .int .i64 ee) rfl; have c100 := b10.cell (j := 0) (v := .int .i64 x) rfl; have c101 := b10.cell (j := 1) (v := .int .i64 y) rfl)
    | (go_at_call 14; refine (same_any A1 A2 n1 c1 c2 T T false _ sl1 sl2 hn1 hn1 (by omega) (fun _ => rfl) (fun _ => rfl)).mono ?_; rintro e w5 ⟨rfl, l5⟩; clear c60 c61 c70 c71 c72 c100 c101; replace b6 := b6.keep l5; replace b7 := b7.keep l5; replace b10 := b10.keep l5; replace sl1 := sl1.keep l5; replace sl2 := sl2.keep l5; replace lw := Later.trans_ lw l5; have c60 := b6.cell (j := 0) (v := .int .i64 p) rfl; have c61 := b6.cell (j := 1) (v := .int .i64 ee) rfl; have c70 := b7.cell (j := 0) (v := .slice A2 n1 c2) rfl; have c71 := b7.cell (j := 1) (v := .int .i64 p) rfl; have c72 := b7.cell (j := 2) (v := .int .i64 ee) rfl; have c100 := b10.cell (j := 0) (v := .int .i64 x) rfl; have c101 := b10.cell (j := 1) (v := .int .i64 y) rfl))
  go_ret
  exact ⟨rfl, lw⟩
theorem reads_all (s : ByteArray) (a : Int) (w : World) (ha : -9223372036854775808 ≤ a ∧ a ≤ 9223372036854775807) (tab : Tab10 w) :
    Calls Tryd.prog 3 #[.string s, .int .i64 a] w fun e w' => e = .returned (.bool true) ∧ Later w w' := by
  by_cases h : s.size ≤ 3000
  · exact reads_short s a w h ha tab
  · exact reads_long s a w h tab

set_option maxRecDepth 100000 in
theorem lexerReadsAsSpecified_contract (H : Type) (enc : TypeId × Value → H) (W : World) (base : Nat) (args : Array Value) (ds gs : List (DataW H)) (before : List MemPlace)
    (hval : ∀ (j : Nat) t v, Tryd.f3.params[j]? = some t → args[j]? = some v → Value.okWide Tryd.prog W .any base t v)
    (hW : DataW.Whole enc Tryd.prog Tryd.f3.params.toList Rows.lexerReadsAsSpecifiedSpec.vars false W args.toList ds gs before) (hL : laidMetH Tryd.prog Rows.lexerReadsAsSpecifiedRow.laid W) :
    Calls Tryd.prog 3 args W fun e W' => ∃ v, e = .returned v ∧ Rows.lexerReadsAsSpecifiedSpec.post enc Tryd.prog Tryd.f3 false true false false W args v W' := by
  have hW' := hW
  have tab : Tab10 W := tab10_of hL
  obtain ⟨p, q, hA0, hV, rfl, _, _⟩ := hW
  have hA : DataW.TrodAll enc Tryd.prog W 0 (fun _ => true) true Tryd.f3.params.toList args.toList ds p := hA0
  rw [Tryd.params3] at hA hval
  obtain ⟨v0, vs0, d0, ds0, p0, q0, hargs, rfl, rfl, h0, r0⟩ := trodAll_cons hA
  obtain ⟨v1, vs1, d1, ds1, p1, q1, rfl, rfl, rfl, h1, r1⟩ := trodAll_cons r0
  obtain ⟨rfl, rfl, rfl⟩ := trodAll_nil r1
  obtain rfl : args = #[v0, v1] := by cases args; simp_all
  obtain ⟨rfl, rfl⟩ := trodVars_none hV
  obtain ⟨s0, rfl, x0⟩ := str_arg Tryd.underlying9 (hval 0 9 v0 rfl rfl) h0
  obtain ⟨n1, rfl, x1, y1⟩ := int_arg Tryd.underlying3 (hval 1 3 v1 rfl rfl) h1
  clear hA0
  simp only [List.append_nil] at hW'
  refine (reads_all s0 n1 W ⟨x1, y1⟩ tab).mono fun e W' ⟨he, hw⟩ => ?_
  subst he
  exact ⟨_, rfl, law_post laidK rfl (by kernel_rfl) (by kernel_rfl) Tryd.underlying4 (by kernel_rfl) hW' rfl hw⟩
set_option maxRecDepth 100000 in
theorem lexerReadsAsSpecified_met (os : Os) : laidMet Tryd.prog Rows.lexerReadsAsSpecifiedRow.laid ((laidWorld os).forCall (fun _ _ => 0) ⟨#[], #[.string ⟨#[]⟩, .int .i64 0], []⟩).memory :=
  laidMet_of_run' 8 (by kernel_rfl) (by kernel_rfl)
set_option maxRecDepth 100000 in
theorem lexerReadsAsSpecified_reads (os : Os) {H : Type} (enc : TypeId × Value → H) : ∃ places, DataW.whole enc Tryd.prog ((laidWorld os).forCall (fun _ _ => 0) ⟨#[], #[.string ⟨#[]⟩, .int .i64 0], []⟩).memory Tryd.f3.params.toList Rows.lexerReadsAsSpecifiedSpec.vars false (#[.string ⟨#[]⟩, .int .i64 0] : Array Value).toList 8 = some ([.lit (.string []), .lit (.int .i64 0)], [], places) :=
  ⟨[], by kernel_rfl⟩

set_option maxRecDepth 100000 in
theorem lexerReadsAsSpecified_lifted (os : Os) (started : os.Started) (H : Type) (enc : TypeId × Value → H) (F : Stop.Interp) :
    ReturnsInHanded {} Tryd.checked os 3 .any ((OpenSpec.ofChange Rows.lexerReadsAsSpecifiedSpec).preRow enc Tryd.prog Tryd.f3 Rows.lexerReadsAsSpecifiedRow.domain false Rows.lexerReadsAsSpecifiedRow.laid) (((OpenSpec.ofChange Rows.lexerReadsAsSpecifiedSpec).at F).post enc Tryd.prog Tryd.f3 false true false false) := by
  obtain ⟨places, hx⟩ := lexerReadsAsSpecified_reads os enc
  refine returnsInHanded_of_row (C := Tryd.checked) (s := OpenSpec.ofChange Rows.lexerReadsAsSpecifiedSpec) ownK started (by kernel_rfl) Tryd.func3
    (witness_row_at (enc := enc) (C := Tryd.checked) false (laidWorld os) #[.string ⟨#[]⟩, .int .i64 0] rfl (by kernel_rfl) (by kernel_rfl) (by kernel_rfl)
      (OpenSpec.preRow_of_cond 8 hx (by kernel_rfl) (fun k hk => by cases hk) (by kernel_rfl) (lexerReadsAsSpecified_met os))) ?_
  intro W base args ds gs before hval hW _ _ _ hL _ _
  exact lexerReadsAsSpecified_contract H enc W base args ds gs before hval hW hL

set_option maxRecDepth 100000 in
theorem lexerReadsAsSpecified_said : Rows.LexerReadsAsSpecifiedSaid :=
  OpenClaim.holds_of_cond 3 Tryd.f3 rfl rfl rfl rfl rfl rfl rfl ⟨rfl, rfl, rfl, rfl, rfl⟩ rfl rfl rfl rfl rfl (by kernel_rfl) Tryd.func3 (by kernel_rfl)
    (of_decide_eq_true (by kernel_rfl)) (by unfold Func.isWrapper; first | (rw [if_pos (by decide +kernel)]; kernel_rfl) | (rw [if_neg (by decide +kernel)]; exact ⟨rfl, rfl⟩))
    (fun os started H enc _ F => by rw [OpenClaim.pre_eq_preRow]; exact lexerReadsAsSpecified_lifted os started H enc F)

set_option maxRecDepth 100000 in
theorem lexerReadsAsSpecified_plain (f : FuncId) (fn : Func) (hf : Tryd.pinned.checked.prog.funcNamed "simulacrum/simulacrumlaw07.LexerReadsAsSpecified" = some f) (hfn : Tryd.pinned.checked.prog.funcs[f]? = some fn) :
    false = Tryd.pinned.checked.prog.looks [] ∧ ∀ (j : Nat) t, fn.params[j]? = some t → Tryd.pinned.checked.prog.wantsStandIn t = false := by
  obtain rfl : f = 3 := Option.some.inj ((show Tryd.prog.funcNamed "simulacrum/simulacrumlaw07.LexerReadsAsSpecified" = some 3 by kernel_rfl).symm.trans hf) |>.symm
  obtain rfl : fn = Tryd.f3 := (Option.some.inj (Tryd.func3.symm.trans hfn)).symm
  refine ⟨by kernel_rfl, fun j t ht => ?_⟩
  exact wants_none 3 Tryd.f3.params (by kernel_rfl) j t ht

set_option maxRecDepth 100000 in
/-- The card. -/
theorem lexerReadsAsSpecified_card : Rows.LexerReadsAsSpecifiedCardSaid :=
  Claim7.holds_tied_plain_at .later [] _ _ _ _ lexerReadsAsSpecified_said (fun _ h => by cases h) (by kernel_rfl) (fun _ h => by cases h) lexerReadsAsSpecified_row_tie rfl ⟨rfl, rfl⟩ (by kernel_rfl) rfl lexerReadsAsSpecified_plain (by kernel_rfl)
#print axioms lexerReadsAsSpecified_card

end Go.Proofs.YtnoajpcgegocdaaDoor
