/-
  THE STATEMENT LexerPrintsAsSpecified: Right and Print are what the reference says.
-/
import Derived.Test.YtjopadfkdpcjmaaDoorLexV
import Derived.Test.YtjopadfkdpcjmaaDoorLexW
import Derived.Test.YtjopadfkdpcjmaaDoorLexRc
namespace Go.Proofs.YtjopadfkdpcjmaaDoor
open Go.RowKit Go.ChangeShapes Go.WideShapes Go.ChangeAt

theorem yieldsIf_load_addr {P : Program} {ops : Array Oper} {S : World → Prop} {op : Oper} {a : Act} (hw : Region.wanted op (yielded ops a.tmps) = true) (ty : TypeId) (x : Operand) (ho : op.op = .load ty x)
    (ad : Addr) (hx : a.eval x = .pointer (some ad)) (cs : List Value) (d : TypeDesc) (hS : ∀ w, S w → ∀ j v, cs[j]? = some v → w.cell? (ad.add j) = some v)
    (hu : P.underlying ty = some d) (hd : d.isRow = true) (hi : (P.info? ty).map (·.size) = some cs.length) : YieldsIf P ops S op (.agg cs.toArray) a :=
  .inl ⟨hw, fun w hw' => by
    unfold execOp
    simp only [ho, hx, Sem.run_bind, Sem.run_pure, run_loadAt_addr (P := P) w ad ty cs d (hS w hw') hu hd hi, Result.andThen_ok]⟩
/-- A token lies at an address. -/
def TokAt (ad : Addr) (t : Lx.Tok) (w : World) : Prop := ∀ j v, (Tk t)[j]? = some v → w.cell? (ad.add j) = some v
theorem TokAt.keep {w w' : World} {ad : Addr} {t : Lx.Tok} (h : TokAt ad t w) (l : Later w w') (hb : ad.block < w.heap.size) : TokAt ad t w' := fun j v hj => by
  have := h j v hj
  rw [← this]
  unfold World.cell?
  rw [l.5 (ad.add j).block (by rw [addr_add_block]; exact hb)]
theorem TokAt.blk {w : World} {g : Nat} {t : Lx.Tok} (h : Blk w g 41 (Tk t)) : TokAt ⟨g, 0, none⟩ t w := fun j v hj => by
  have := h.cell (j := j) (v := v) hj
  rw [show (⟨g, 0, none⟩ : Addr).add j = ⟨g, j, none⟩ by simp [Addr.add]; exact fun h => h.symm]
  exact this
set_option maxRecDepth 100000 in
theorem prints_no (A : Option Addr) (n c : Nat) (l : List Lx.Tok) (w : World) (hs : Sl w 4 A n (Tks l)) (hll : l.length = n) (hn : n ≤ maxLen) (h : fewB l = false) (tab : Tab10 w) :
    Calls Tryd.prog 4 #[.slice A n c] w fun e w' => e = .returned (.bool true) ∧ Later w w' := by
  have HN := Lib.hid fun w' (h : Later w w') => sanity_any w' (tab.keep h)
  have HF := Lib.hid (few_any A n c l w hs hll hn)
  clear tab
  rw [h] at HF
  clear h hs hll hn
  go_enter Tryd.func4, Tryd.ntmps4
  go_wp2_with (first
  | (go_at_call 15; refine HF.out.mono ?_; rintro e w1 ⟨rfl, l1⟩)
  | (go_at_call 9; refine (HN.out _ l1).mono ?_; rintro e w2 ⟨rfl, l2⟩))
  go_ret
  exact ⟨rfl, Later.trans_ l1 l2⟩
set_option maxRecDepth 100000 in
set_option maxHeartbeats 8000000 in
theorem prints_few (A : Option Addr) (n c : Nat) (l : List Lx.Tok) (w : World) (hs : Sl w 4 A n (Tks l)) (hll : l.length = n) (hn : n ≤ maxLen) (h : fewB l = true) (tab : Tab10 w) (S : Lx.Str) (re : Int) (hS : Lx.Print l = (S, re)) :
    Calls Tryd.prog 4 #[.slice A n c] w fun e w' => e = .returned (.bool true) ∧ Later w w' := by
  have HN := Lib.hid fun w' (h : Later w w') => sanity_any w' (tab.keep h)
  have HF := Lib.hid (few_any A n c l w hs hll hn)
  rw [h] at HF
  have HS := Lib.hid fun w' (h : Later w w') => hs.keep h
  have HAD := Lib.hid fun (h : 0 < n) => (show ∃ ad, A = some ad ∧ ad.block < w.heap.size from by obtain ⟨ad, e, hb, _⟩ := hs.2 h; exact ⟨ad, e, hb⟩)
  have HP := Lib.hid fun w' (h : Later w w') => print_any A n c l w' (hs.keep h) hll hn (tab.keep h)
  have HQ := Lib.hid fun w' (h : Later w w') => rprint_any A n c l w' (hs.keep h) hll hn
  rw [hS] at HP HQ
  unfold prAns at HP
  unfold Pc at HQ
  simp only at HP HQ
  have HRT := Lib.hid fun t w' => rright_any t w'
  have HLT := Lib.hid fun t w' => right_any t w'
  have hn100 : n ≤ 100 := by
    unfold fewB at h
    rw [Bool.and_eq_true, decide_eq_true_eq] at h
    omega
  clear tab h hs hS hn
  go_enter Tryd.func4, Tryd.ntmps4
  go_wp2_with (first
    | (go_at_call 15; refine HF.out.mono ?_; rintro e w1 ⟨rfl, lw⟩))
  go_loopw [14] (fun i wr => ∃ k : Nat, k ≤ n ∧ i = .int .i64 k ∧ Later w wr) (fun i _ => n - (intOf i).toNat)
  case atStart => exact ⟨0, Nat.zero_le _, rfl, lw⟩
  case round =>
    obtain ⟨k, hk, rfl, hbr⟩ := hrel
    rename_i wr
    clear lw
    by_cases hlt : k < n
    · obtain ⟨ad, rfl, hab⟩ := HAD.out (by omega)
      have hkl : k < l.length := by omega
      have cx := Lib.hid (Sl.tok (HS.out wr hbr) hkl hll)
      obtain ⟨t, ht⟩ : ∃ t, l[k]'hkl = t := ⟨_, rfl⟩
      rw [ht] at cx
      have HG := Lib.hid (HLT.out t)
      have HG2 := Lib.hid (HRT.out t)
      obtain ⟨rt, hrt⟩ : ∃ rt, Lx.right t = rt := ⟨_, rfl⟩
      rw [hrt] at HG HG2
      clear ht hrt
      have b0 : Blk (wr.alloc (.cells (Tk t).toArray 41)) wr.heap.size 41 (Tk t) := Blk.new wr _ _ _ rfl
      have hw8 := hbr.alloc hbr.size (.cells (Tk t).toArray 41)
      obtain ⟨tk, ta, tn, ts⟩ := t
      have hsz := tk_sz ⟨tk, ta, tn, ts⟩
      have C0 := TokAt.blk b0
      have hg0 : wr.heap.size < (wr.alloc (.cells (Tk ⟨tk, ta, tn, ts⟩).toArray 41)).heap.size := by simp
      unfold TokAt at C0
      unfold Tk at cx HG HG2 b0 hw8 hsz C0 hg0
      simp only at cx HG HG2 b0 hw8 hsz C0 hg0
      go_wp2_with (first
        | (refine wpList_load_addr (o := ⟨some 17, .load 41 (.tmp 16), _, _, _, none⟩) rfl _ _ rfl (ad.add (k * 4)) [.int .i64 tk, .int .i64 ta, .int .i64 tn, .string ⟨ts.toArray⟩] _ rfl cx.out Tryd.underlying41 rfl hsz ?_))
      obtain ⟨w8, h8⟩ : ∃ x, wr.alloc (.cells #[.int .i64 tk, .int .i64 ta, .int .i64 tn, .string ⟨ts.toArray⟩] 41) = x := ⟨_, rfl⟩
      rw [h8] at hw8 C0 hg0 ⊢
      clear b0 h8
      refine wp_region_held_drew (S := fun w' => ∀ j v, ([.int .i64 tk, .int .i64 ta, .int .i64 tn, .string ⟨ts.toArray⟩] : List Value)[j]? = some v → w'.cell? ((⟨wr.heap.size, 0, none⟩ : Addr).add j) = some v) (by kernel_rfl) C0 (fun hHeld => ?_)
      refine wpAnyH_take (i := 0) (oi := ⟨some 18, .load 41 (.tmp 4), _, _, _, none⟩) (v := .agg #[.int .i64 tk, .int .i64 ta, .int .i64 tn, .string ⟨ts.toArray⟩]) rfl (by kernel_rfl) (by kernel_rfl) (by kernel_rfl) (fun _ _ _ h => h) (yieldsIf_load_addr (by rfl) _ _ rfl ⟨wr.heap.size, 0, none⟩ (by rfl) [.int .i64 tk, .int .i64 ta, .int .i64 tn, .string ⟨ts.toArray⟩] _ (fun w h => h) Tryd.underlying41 rfl hsz) hHeld ?_
      simp only [Act.put, List.setIfInBounds_toArray, List.set_cons_zero, List.set_cons_succ]
      refine wpAnyH_take (i := 2) (oi := ⟨some 20, .load 41 (.tmp 4), _, _, _, none⟩) (v := .agg #[.int .i64 tk, .int .i64 ta, .int .i64 tn, .string ⟨ts.toArray⟩]) rfl (by kernel_rfl) (by kernel_rfl) (by kernel_rfl) (fun _ _ _ h => h) (yieldsIf_load_addr (by rfl) _ _ rfl ⟨wr.heap.size, 0, none⟩ (by rfl) [.int .i64 tk, .int .i64 ta, .int .i64 tn, .string ⟨ts.toArray⟩] _ (fun w h => h) Tryd.underlying41 rfl hsz) hHeld ?_
      simp only [Act.put, List.setIfInBounds_toArray, List.set_cons_zero, List.set_cons_succ]
      refine wpAnyH_ready (rs := [1]) (by kernel_rfl) (by simp) (AllReadyH.cons (o := ⟨some 19, .call { callee := .value (.func 16), args := #[.tmp 18], argTypes := #[41] }, _, _, _, none⟩) rfl (fun K' hK => ?_) (AllReadyH.nil))
      go_simp
      (with_reducible refine (HG.out _).mono ?_)
      rintro e v1 ⟨rfl, l1⟩
      have C1 := TokAt.keep (w := w8.drew) (ad := ⟨wr.heap.size, 0, none⟩) (t := ⟨tk, ta, tn, ts⟩) C0 l1 hg0
      have hg1 := Nat.lt_of_lt_of_le (show wr.heap.size < w8.drew.heap.size from hg0) l1.size
      unfold TokAt Tk at C1
      simp only at C1
      refine hK.out _ _ C1 (fun hHeld => ?_)
      clear hK K'
      try simp only [Act.put, List.setIfInBounds_toArray, List.set_cons_zero, List.set_cons_succ]
      refine wpAnyH_ready (rs := [3]) (by kernel_rfl) (by simp) (AllReadyH.cons (o := ⟨some 21, .call { callee := .value (.func 17), args := #[.tmp 20], argTypes := #[41] }, _, _, _, none⟩) rfl (fun K' hK => ?_) (AllReadyH.nil))
      go_simp
      (with_reducible refine (HG2.out _).mono ?_)
      rintro e v2 ⟨rfl, l2⟩
      replace C1 := TokAt.keep (ad := ⟨wr.heap.size, 0, none⟩) (t := ⟨tk, ta, tn, ts⟩) C1 l2 hg1
      unfold TokAt Tk at C1
      simp only at C1
      refine hK.out _ _ C1 (fun hHeld => ?_)
      clear hK K'
      try simp only [Act.put, List.setIfInBounds_toArray, List.set_cons_zero, List.set_cons_succ]
      refine wpAnyH_take (i := 4) (oi := ⟨some 22, .binOp .neq 4 (.tmp 19) (.tmp 21) 4, _, _, _, none⟩) (v := .bool false) rfl (by kernel_rfl) (by kernel_rfl) (by kernel_rfl) (fun _ _ _ h => h) (Or.inl ⟨by rfl, fun w _ => by go_simp⟩) hHeld ?_
      simp only [Act.put, List.setIfInBounds_toArray, List.set_cons_zero, List.set_cons_succ]
      refine wpAnyH_done (by kernel_rfl) ?_ _
      clear hHeld
      try simp only [Act.put]
      go_wp2
      go_roundw
      case rel => exact ⟨k + 1, by omega, by go_num, Later.trans_ (Later.trans_ hw8.drew l1) l2⟩
      case measure => first | (simp [intOf]; omega) | (simp [intOf]; done) | (simp; omega)
    · clear HS HAD HRT HLT HF
      have lw := hbr
      go_wp2_with (first
        | (go_at_call 18; (with_reducible refine (HP.out _ lw).mono ?_); rintro e w2 ⟨rfl, l2⟩; replace lw := Later.trans_ lw l2)
        | (go_at_call 19; (with_reducible refine (HQ.out _ lw).mono ?_); rintro e w3 ⟨rfl, l3⟩; have b7 := Blk.new w3 46 #[.string ⟨S.toArray⟩, .int .i64 re] [.string ⟨S.toArray⟩, .int .i64 re] rfl; replace lw := Later.trans_ (Later.trans_ lw l3) (later1 w3 (.cells #[.string ⟨S.toArray⟩, .int .i64 re] 46)))
        | (go_at_call 9; refine (HN.out _ lw).mono ?_; rintro e w4 ⟨rfl, l4⟩; replace lw := Later.trans_ lw l4; replace b7 := b7.keep l4; have c70 := b7.cell (j := 0) (v := .string ⟨S.toArray⟩) rfl; have c71 := b7.cell (j := 1) (v := .int .i64 re) rfl))
      go_ret
      exact ⟨rfl, lw⟩
theorem prints_all (A : Option Addr) (n c : Nat) (l : List Lx.Tok) (w : World) (hs : Sl w 4 A n (Tks l)) (hll : l.length = n) (hn : n ≤ maxLen) (tab : Tab10 w) :
    Calls Tryd.prog 4 #[.slice A n c] w fun e w' => e = .returned (.bool true) ∧ Later w w' := by
  cases h : fewB l with
  | false => exact prints_no A n c l w hs hll hn h tab
  | true => exact prints_few A n c l w hs hll hn h tab (Lx.Print l).1 (Lx.Print l).2 rfl

set_option maxRecDepth 100000 in
theorem lexerPrintsAsSpecified_contract (H : Type) (enc : TypeId × Value → H) (W : World) (base : Nat) (args : Array Value) (ds gs : List (DataW H)) (before : List MemPlace)
    (hval : ∀ (j : Nat) t v, Tryd.f4.params[j]? = some t → args[j]? = some v → Value.okWide Tryd.prog W .any base t v)
    (hW : DataW.Whole enc Tryd.prog Tryd.f4.params.toList Rows.lexerPrintsAsSpecifiedSpec.vars false W args.toList ds gs before) (hL : laidMetH Tryd.prog Rows.lexerPrintsAsSpecifiedRow.laid W) :
    Calls Tryd.prog 4 args W fun e W' => ∃ v, e = .returned v ∧ Rows.lexerPrintsAsSpecifiedSpec.post enc Tryd.prog Tryd.f4 false true false false W args v W' := by
  have hW' := hW
  have tab : Tab10 W := tab10_of hL
  obtain ⟨p, q, hA0, hV, rfl, _, _⟩ := hW
  have hA : DataW.TrodAll enc Tryd.prog W 0 (fun _ => true) true Tryd.f4.params.toList args.toList ds p := hA0
  rw [Tryd.params4] at hA hval
  obtain ⟨v0, vs0, d0, ds0, p0, q0, hargs, rfl, rfl, h0, r0⟩ := trodAll_cons hA
  obtain ⟨rfl, rfl, rfl⟩ := trodAll_nil r0
  obtain rfl : args = #[v0] := by cases args; simp_all
  obtain ⟨rfl, rfl⟩ := trodVars_none hV
  obtain ⟨A0, n0, c0, l0, rfl, x0, y0, s0, z0⟩ := tokens_arg Tryd.underlying23 Tryd.underlying41 rfl rfl rfl rfl Tryd.underlying3 Tryd.underlying3 Tryd.underlying3 Tryd.underlying9 (by kernel_rfl) (by kernel_rfl) (by kernel_rfl) (by kernel_rfl) (by kernel_rfl) (hval 0 23 v0 rfl rfl) h0
  clear hA0
  simp only [List.append_nil] at hW'
  refine (prints_all A0 n0 c0 l0 W s0 z0 (Nat.le_trans x0 y0) tab).mono fun e W' ⟨he, hw⟩ => ?_
  subst he
  exact ⟨_, rfl, law_post laidK rfl (by kernel_rfl) (by kernel_rfl) Tryd.underlying4 (by kernel_rfl) hW' rfl hw⟩
set_option maxRecDepth 100000 in
theorem lexerPrintsAsSpecified_met (os : Os) : laidMet Tryd.prog Rows.lexerPrintsAsSpecifiedRow.laid ((laidWorld os).forCall (fun _ _ => 0) ⟨#[], #[.slice none 0 0], []⟩).memory :=
  laidMet_of_run' 8 (by kernel_rfl) (by kernel_rfl)
set_option maxRecDepth 100000 in
theorem lexerPrintsAsSpecified_reads (os : Os) {H : Type} (enc : TypeId × Value → H) : ∃ places, DataW.whole enc Tryd.prog ((laidWorld os).forCall (fun _ _ => 0) ⟨#[], #[.slice none 0 0], []⟩).memory Tryd.f4.params.toList Rows.lexerPrintsAsSpecifiedSpec.vars false (#[.slice none 0 0] : Array Value).toList 8 = some ([.nil], [], places) :=
  ⟨[], by kernel_rfl⟩

set_option maxRecDepth 100000 in
theorem lexerPrintsAsSpecified_lifted (os : Os) (started : os.Started) (H : Type) (enc : TypeId × Value → H) (F : Stop.Interp) :
    ReturnsInHanded {} Tryd.checked os 4 .any ((OpenSpec.ofChange Rows.lexerPrintsAsSpecifiedSpec).preRow enc Tryd.prog Tryd.f4 Rows.lexerPrintsAsSpecifiedRow.domain false Rows.lexerPrintsAsSpecifiedRow.laid) (((OpenSpec.ofChange Rows.lexerPrintsAsSpecifiedSpec).at F).post enc Tryd.prog Tryd.f4 false true false false) := by
  obtain ⟨places, hx⟩ := lexerPrintsAsSpecified_reads os enc
  refine returnsInHanded_of_row (C := Tryd.checked) (s := OpenSpec.ofChange Rows.lexerPrintsAsSpecifiedSpec) ownK started (by kernel_rfl) Tryd.func4
    (witness_row_at (enc := enc) (C := Tryd.checked) false (laidWorld os) #[.slice none 0 0] rfl (by kernel_rfl) (by kernel_rfl) (by kernel_rfl)
      (OpenSpec.preRow_of_cond 8 hx (by kernel_rfl) (fun k hk => by cases hk) (by kernel_rfl) (lexerPrintsAsSpecified_met os))) ?_
  intro W base args ds gs before hval hW _ _ _ hL _ _
  exact lexerPrintsAsSpecified_contract H enc W base args ds gs before hval hW hL

set_option maxRecDepth 100000 in
theorem lexerPrintsAsSpecified_said : Rows.LexerPrintsAsSpecifiedSaid :=
  OpenClaim.holds_of_cond 4 Tryd.f4 rfl rfl rfl rfl rfl rfl rfl ⟨rfl, rfl, rfl, rfl, rfl⟩ rfl rfl rfl rfl rfl (by kernel_rfl) Tryd.func4 (by kernel_rfl)
    (of_decide_eq_true (by kernel_rfl)) (by unfold Func.isWrapper; first | (rw [if_pos (by decide +kernel)]; kernel_rfl) | (rw [if_neg (by decide +kernel)]; exact ⟨rfl, rfl⟩))
    (fun os started H enc _ F => by rw [OpenClaim.pre_eq_preRow]; exact lexerPrintsAsSpecified_lifted os started H enc F)

set_option maxRecDepth 100000 in
theorem lexerPrintsAsSpecified_plain (f : FuncId) (fn : Func) (hf : Tryd.pinned.checked.prog.funcNamed "simulacrum/simulacrumlaw07.LexerPrintsAsSpecified" = some f) (hfn : Tryd.pinned.checked.prog.funcs[f]? = some fn) :
    false = Tryd.pinned.checked.prog.looks [] ∧ ∀ (j : Nat) t, fn.params[j]? = some t → Tryd.pinned.checked.prog.wantsStandIn t = false := by
  obtain rfl : f = 4 := Option.some.inj ((show Tryd.prog.funcNamed "simulacrum/simulacrumlaw07.LexerPrintsAsSpecified" = some 4 by kernel_rfl).symm.trans hf) |>.symm
  obtain rfl : fn = Tryd.f4 := (Option.some.inj (Tryd.func4.symm.trans hfn)).symm
  refine ⟨by kernel_rfl, fun j t ht => ?_⟩
  exact wants_none 4 Tryd.f4.params (by kernel_rfl) j t ht

set_option maxRecDepth 100000 in
/-- The card. -/
theorem lexerPrintsAsSpecified_card : Rows.LexerPrintsAsSpecifiedCardSaid :=
  Claim7.holds_tied_plain_at .later [] _ _ _ _ lexerPrintsAsSpecified_said (fun _ h => by cases h) (by kernel_rfl) (fun _ h => by cases h) lexerPrintsAsSpecified_row_tie rfl ⟨rfl, rfl⟩ (by kernel_rfl) rfl lexerPrintsAsSpecified_plain (by kernel_rfl)
#print axioms lexerPrintsAsSpecified_card

end Go.Proofs.YtjopadfkdpcjmaaDoor
