/-
  THE STATEMENT CoreKeepsValid: after a step and its answer the processor is valid, its stores can be done and are among its accesses.
-/
import Derived.Test.YtbhhhpglljkcpaaGreatDoorXs
import Derived.Test.YtbhhhpglljkcpaaGreatDoorYc
import Derived.Test.YtbhhhpglljkcpaaGreatDoorWv
import Derived.Test.YtbhhhpglljkcpaaGreatDoorVb
import Derived.Test.YtbhhhpglljkcpaaGreatDoorVj
import Derived.Test.YtbhhhpglljkcpaaGreatDoorCards
import Derived.Test.YtbhhhpglljkcpaaGreatDoorTie
namespace Go.Proofs.YtbhhhpglljkcpaaGreatDoor
open Go.RowKit Go.ChangeShapes Go.WideShapes Go.ChangeAt
/-- A world for the witness. -/
noncomputable def laidWorld (os : Os) : World :=
  { World.holding Tryz.prog os ⟨#[], #[], []⟩ with heap := (World.holding Tryz.prog os ⟨#[], #[], []⟩).heap.modify 0 fun
      | .cells _ t frozen => .cells opCells.toArray t frozen
      | o => o }
def inR5 (l : List Int) : Prop := ∀ x ∈ l, -9223372036854775808 ≤ x ∧ x ≤ 9223372036854775807
section
variable {H : Type} {enc : TypeId × Value → H} {P : Program} {W : World} {r : Reach} {b0 : Nat} {v : Value} {d : DataW H} {p : List MemPlace}
/-- A struct of five ints. -/
theorem five_arg {t e : TypeId} {fs : Array Field} (ht : P.underlying t = some (.struct fs)) (hn : fs.size = 5) (he : P.underlying e = some (.int .i64)) (hf : (List.range 5).all (fun i => match fs[i]? with | some f => f.type == e && f.offset == i | none => false) = true) (hc : P.cellsOf e = 1) (hct : P.cellsOf t = 5)
    (hv : Value.okWide P W r b0 t v) (h : DataW.Trod enc P W 0 (fun _ => true) true t v d p) :
    ∃ n0 n1 n2 n3 n4 : Int, v = .agg #[.int .i64 n0, .int .i64 n1, .int .i64 n2, .int .i64 n3, .int .i64 n4] ∧ inR5 [n0, n1, n2, n3, n4] := by
  obtain ⟨cs, rfl, hsz⟩ := okWide_struct ht hv
  obtain ⟨fuel, hf'⟩ := h
  obtain ⟨xs, n, _, _, hl, hlen, hall⟩ := DataW.trod_struct ht hf'
  rw [hct] at hsz
  obtain ⟨l⟩ := cs
  have key : ∀ i, i < 5 → ∃ m : Int, l[i]? = some (.int .i64 m) ∧ -9223372036854775808 ≤ m ∧ m ≤ 9223372036854775807 := by
    intro i hi
    have h1 := List.all_eq_true.1 hf i (by simpa using hi)
    have h2 := hall i fs[i] (by simp [hn, hi])
    rw [Array.getElem?_eq_getElem (by omega)] at h1
    simp only [Bool.and_eq_true, beq_iff_eq] at h1
    obtain ⟨b, hb⟩ : ∃ b, xs[i]? = some b := ⟨xs[i]'(by omega), List.getElem?_eq_getElem (by omega)⟩
    rw [hb, h1.1, h1.2, hc] at h2
    obtain ⟨z, hz, _, hw⟩ := DataW.trod_int he h2
    have h3 : l[i]? = some (.int .i64 z) := by
      have := congrArg (·[0]?) hz
      simpa [List.getElem?_take, List.getElem?_drop, Value.cells] using this
    have h4 : IntKind.i64.min = -9223372036854775808 := rfl
    have h5 : IntKind.i64.max = 9223372036854775807 := rfl
    simp only [Lit.wf, Bool.and_eq_true, decide_eq_true_eq] at hw
    exact ⟨z, h3, by omega, by omega⟩
  obtain ⟨m0, a0, b0⟩ := key 0 (by omega)
  obtain ⟨m1, a1, b1⟩ := key 1 (by omega)
  obtain ⟨m2, a2, b2⟩ := key 2 (by omega)
  obtain ⟨m3, a3, b3⟩ := key 3 (by omega)
  obtain ⟨m4, a4, b4⟩ := key 4 (by omega)
  refine ⟨m0, m1, m2, m3, m4, ?_, ?_⟩
  · match l, hsz, a0, a1, a2, a3, a4 with
    | [c0, c1, c2, c3, c4], _, a0, a1, a2, a3, a4 =>
      simp at a0 a1 a2 a3 a4
      rw [a0, a1, a2, a3, a4]
  · intro x hx
    simp only [List.mem_cons, List.not_mem_nil, or_false] at hx
    rcases hx with rfl | rfl | rfl | rfl | rfl <;> assumption
end
theorem wants_none (_f : FuncId) (ps : Array TypeId) (h : (ps.toList.all fun t => !Tryz.prog.wantsStandIn t) = true) (j : Nat) (t : TypeId) (ht : ps[j]? = some t) : Tryz.prog.wantsStandIn t = false := by
  have := List.all_eq_true.1 h t (by rw [Array.mem_toList_iff]; exact Array.mem_of_getElem? ht)
  simpa using this
theorem wf_rv {x : Cpu} (h : x.wf) : x.Rv := by
  intro k hk
  have g : ∀ z : Int, 0 ≤ z ∧ z ≤ 4294967295 → 0 ≤ z ∧ z < 4294967296 := fun z hz => ⟨hz.1, by omega⟩
  rcases (show k = 0 ∨ k = 1 ∨ k = 2 ∨ k = 3 ∨ k = 4 ∨ k = 5 ∨ k = 6 ∨ k = 7 ∨ k = 8 ∨ k = 9 ∨ k = 10 ∨ k = 11 ∨ k = 12 ∨ k = 13 ∨ k = 14 ∨ k = 15 by omega) with rfl | rfl | rfl | rfl | rfl | rfl | rfl | rfl | rfl | rfl | rfl | rfl | rfl | rfl | rfl | rfl
  · exact g x.r0 (h.1 x.r0 (by simp))
  · exact g x.r1 (h.1 x.r1 (by simp))
  · exact g x.r2 (h.1 x.r2 (by simp))
  · exact g x.r3 (h.1 x.r3 (by simp))
  · exact g x.r4 (h.1 x.r4 (by simp))
  · exact g x.r5 (h.1 x.r5 (by simp))
  · exact g x.r6 (h.1 x.r6 (by simp))
  · exact g x.r7 (h.1 x.r7 (by simp))
  · exact g x.r8 (h.1 x.r8 (by simp))
  · exact g x.r9 (h.1 x.r9 (by simp))
  · exact g x.r10 (h.1 x.r10 (by simp))
  · exact g x.r11 (h.1 x.r11 (by simp))
  · exact g x.r12 (h.1 x.r12 (by simp))
  · exact g x.r13 (h.1 x.r13 (by simp))
  · exact g x.r14 (h.1 x.r14 (by simp))
  · exact g x.r15 (h.1 x.r15 (by simp))
theorem wf_c0 {x : Cpu} (h : x.wf) : 0 ≤ x.c0 ∧ x.c0 ≤ 4294967295 := h.1 x.c0 (by simp)
theorem wf_pc {x : Cpu} (h : x.wf) : 0 ≤ x.pc ∧ x.pc ≤ 4294967295 := h.1 x.pc (by simp)

set_option maxRecDepth 100000 in
theorem coreKeepsValid_contract (H : Type) (enc : TypeId × Value → H) (W : World) (base : Nat) (args : Array Value) (ds gs : List (DataW H)) (before : List MemPlace)
    (hval : ∀ (j : Nat) t v, Tryz.f7.params[j]? = some t → args[j]? = some v → Value.okWide Tryz.prog W .any base t v)
    (hW : DataW.Whole enc Tryz.prog Tryz.f7.params.toList Rows.coreKeepsValidSpec.vars false W args.toList ds gs before) (hL : laidMetH Tryz.prog Rows.coreKeepsValidRow.laid W) :
    Calls Tryz.prog 7 args W fun e W' => ∃ v, e = .returned v ∧ Rows.coreKeepsValidSpec.post enc Tryz.prog Tryz.f7 false true false false W args v W' := by
  have hW' := hW
  have tab : Tab W := tab_of hL
  obtain ⟨p, q, hA0, hV, rfl, _, _⟩ := hW
  have hA : DataW.TrodAll enc Tryz.prog W 0 (fun _ => true) true Tryz.f7.params.toList args.toList ds p := hA0
  rw [Tryz.params7] at hA hval
  obtain ⟨v0, vs0, d0, ds0, p0, q0, hargs, rfl, rfl, h0, r0⟩ := trodAll_cons hA
  obtain ⟨v1, vs1, d1, ds1, p1, q1, rfl, rfl, rfl, h1, r1⟩ := trodAll_cons r0
  obtain ⟨v2, vs2, d2, ds2, p2, q2, rfl, rfl, rfl, h2, r2⟩ := trodAll_cons r1
  obtain ⟨v3, vs3, d3, ds3, p3, q3, rfl, rfl, rfl, h3, r3⟩ := trodAll_cons r2
  obtain ⟨v4, vs4, d4, ds4, p4, q4, rfl, rfl, rfl, h4, r4⟩ := trodAll_cons r3
  obtain ⟨rfl, rfl, rfl⟩ := trodAll_nil r4
  obtain rfl : args = #[v0, v1, v2, v3, v4] := by cases args; simp_all
  obtain ⟨rfl, rfl⟩ := trodVars_none hV
  obtain ⟨x0, rfl, z0⟩ := cpu_open (hval 0 26 v0 rfl rfl) h0
  obtain ⟨A1, n1, c1, b1, rfl, x1, y1, s1, z1⟩ := mem_arg (K := 128) (by omega) Tryz.underlying29 rfl Tryz.underlying27 Tryz.underlying55 Tryz.underlying5 (by kernel_rfl) (by kernel_rfl) (by kernel_rfl) (by kernel_rfl) (hval 1 29 v1 rfl rfl) h1
  obtain ⟨q2, rfl, y2⟩ := u32_arg Tryz.underlying22 (hval 2 22 v2 rfl rfl) h2
  have w2 : Tm.isE q2 := ⟨y2.1, by have := y2.2; omega⟩
  obtain ⟨q3, rfl, y3⟩ := u32_arg Tryz.underlying22 (hval 3 22 v3 rfl rfl) h3
  have w3 : Tm.isE q3 := ⟨y3.1, by have := y3.2; omega⟩
  obtain ⟨o4, rfl, rfl, rfl⟩ := open_bool Tryz.underlying4 (hval 4 4 v4 rfl rfl) h4
  clear hA0
  simp only [List.append_nil] at hW'
  refine (keep_any x0 A1 n1 c1 b1 q2 q3 o4 W (wf_rv z0) (wf_c0 z0) (wf_pc z0) z0.c5 w2 s1 z1 tab (fun w' t => sanity_any w' t)).mono fun e W' ⟨he, hw⟩ => ?_
  subst he
  exact ⟨_, rfl, law_post laidK rfl (by kernel_rfl) (by kernel_rfl) Tryz.underlying4 (by kernel_rfl) hW' rfl hw⟩
set_option maxRecDepth 100000 in
theorem coreKeepsValid_met (os : Os) : laidMet Tryz.prog Rows.coreKeepsValidRow.laid ((laidWorld os).forCall (fun _ _ => 0) ⟨#[], #[.agg #[.int .u32 0, .int .u32 0, .int .u32 0, .int .u32 0, .int .u32 0, .int .u32 0, .int .u32 0, .int .u32 0, .int .u32 0, .int .u32 0, .int .u32 0, .int .u32 0, .int .u32 0, .int .u32 0, .int .u32 0, .int .u32 0, .int .u32 0, .int .u32 0, .int .u32 0, .int .u32 0, .int .u32 0, .int .u32 0, .int .u32 0, .int .u32 0, .int .u32 0, .int .u32 0, .bool false, .bool false, .bool false, .int .i64 0], .agg #[.slice none 0 0], .int .u32 0, .int .u32 0, .bool false], []⟩).memory :=
  laidMet_of_run' 8 (by kernel_rfl) (by kernel_rfl)
set_option maxRecDepth 100000 in
theorem coreKeepsValid_reads (os : Os) {H : Type} (enc : TypeId × Value → H) : ∃ places, DataW.whole enc Tryz.prog ((laidWorld os).forCall (fun _ _ => 0) ⟨#[], #[.agg #[.int .u32 0, .int .u32 0, .int .u32 0, .int .u32 0, .int .u32 0, .int .u32 0, .int .u32 0, .int .u32 0, .int .u32 0, .int .u32 0, .int .u32 0, .int .u32 0, .int .u32 0, .int .u32 0, .int .u32 0, .int .u32 0, .int .u32 0, .int .u32 0, .int .u32 0, .int .u32 0, .int .u32 0, .int .u32 0, .int .u32 0, .int .u32 0, .int .u32 0, .int .u32 0, .bool false, .bool false, .bool false, .int .i64 0], .agg #[.slice none 0 0], .int .u32 0, .int .u32 0, .bool false], []⟩).memory Tryz.f7.params.toList Rows.coreKeepsValidSpec.vars false (#[.agg #[.int .u32 0, .int .u32 0, .int .u32 0, .int .u32 0, .int .u32 0, .int .u32 0, .int .u32 0, .int .u32 0, .int .u32 0, .int .u32 0, .int .u32 0, .int .u32 0, .int .u32 0, .int .u32 0, .int .u32 0, .int .u32 0, .int .u32 0, .int .u32 0, .int .u32 0, .int .u32 0, .int .u32 0, .int .u32 0, .int .u32 0, .int .u32 0, .int .u32 0, .int .u32 0, .bool false, .bool false, .bool false, .int .i64 0], .agg #[.slice none 0 0], .int .u32 0, .int .u32 0, .bool false] : Array Value).toList 8 = some ([.agg [.lit (.int .u32 0), .agg [.lit (.int .u32 0), .lit (.int .u32 0), .lit (.int .u32 0), .lit (.int .u32 0), .lit (.int .u32 0), .lit (.int .u32 0), .lit (.int .u32 0), .lit (.int .u32 0), .lit (.int .u32 0), .lit (.int .u32 0), .lit (.int .u32 0), .lit (.int .u32 0), .lit (.int .u32 0), .lit (.int .u32 0), .lit (.int .u32 0), .lit (.int .u32 0)], .agg [.lit (.int .u32 0), .lit (.int .u32 0), .lit (.int .u32 0), .lit (.int .u32 0), .lit (.int .u32 0), .lit (.int .u32 0), .lit (.int .u32 0), .lit (.int .u32 0), .lit (.int .u32 0)], .lit (.bool false), .lit (.bool false), .lit (.bool false), .lit (.int .i64 0)], .agg [.nil], .lit (.int .u32 0), .lit (.int .u32 0), .lit (.bool false)], [], places) :=
  ⟨[], by kernel_rfl⟩

set_option maxRecDepth 100000 in
theorem coreKeepsValid_lifted (os : Os) (started : os.Started) (H : Type) (enc : TypeId × Value → H) (F : Stop.Interp) :
    ReturnsInHanded {} Tryz.checked os 7 .any ((OpenSpec.ofChange Rows.coreKeepsValidSpec).preRow enc Tryz.prog Tryz.f7 Rows.coreKeepsValidRow.domain false Rows.coreKeepsValidRow.laid) (((OpenSpec.ofChange Rows.coreKeepsValidSpec).at F).post enc Tryz.prog Tryz.f7 false true false false) := by
  obtain ⟨places, hx⟩ := coreKeepsValid_reads os enc
  refine returnsInHanded_of_row (C := Tryz.checked) (s := OpenSpec.ofChange Rows.coreKeepsValidSpec) ownK started (by kernel_rfl) Tryz.func7
    (witness_row_at (enc := enc) (C := Tryz.checked) false (laidWorld os) #[.agg #[.int .u32 0, .int .u32 0, .int .u32 0, .int .u32 0, .int .u32 0, .int .u32 0, .int .u32 0, .int .u32 0, .int .u32 0, .int .u32 0, .int .u32 0, .int .u32 0, .int .u32 0, .int .u32 0, .int .u32 0, .int .u32 0, .int .u32 0, .int .u32 0, .int .u32 0, .int .u32 0, .int .u32 0, .int .u32 0, .int .u32 0, .int .u32 0, .int .u32 0, .int .u32 0, .bool false, .bool false, .bool false, .int .i64 0], .agg #[.slice none 0 0], .int .u32 0, .int .u32 0, .bool false] rfl (by kernel_rfl) (by kernel_rfl) (by kernel_rfl)
      (OpenSpec.preRow_of_cond 8 hx (by kernel_rfl) (fun k hk => by cases hk) (by kernel_rfl) (coreKeepsValid_met os))) ?_
  intro W base args ds gs before hval hW _ _ _ hL _ _
  exact coreKeepsValid_contract H enc W base args ds gs before hval hW hL

set_option maxRecDepth 100000 in
theorem coreKeepsValid_said : Rows.CoreKeepsValidSaid :=
  OpenClaim.holds_of_cond 7 Tryz.f7 rfl rfl rfl rfl rfl rfl rfl ⟨rfl, rfl, rfl, rfl, rfl⟩ rfl rfl rfl rfl rfl (by kernel_rfl) Tryz.func7 (by kernel_rfl)
    (of_decide_eq_true (by kernel_rfl)) (by unfold Func.isWrapper; first | (rw [if_pos (by decide +kernel)]; kernel_rfl) | (rw [if_neg (by decide +kernel)]; exact ⟨rfl, rfl⟩))
    (fun os started H enc _ F => by rw [OpenClaim.pre_eq_preRow]; exact coreKeepsValid_lifted os started H enc F)

set_option maxRecDepth 100000 in
theorem coreKeepsValid_plain (f : FuncId) (fn : Func) (hf : Tryz.pinned.checked.prog.funcNamed "simulacrum/simulacrumlaw12.CoreKeepsValid" = some f) (hfn : Tryz.pinned.checked.prog.funcs[f]? = some fn) :
    true = Tryz.pinned.checked.prog.looks [] ∧ ∀ (j : Nat) t, fn.params[j]? = some t → Tryz.pinned.checked.prog.wantsStandIn t = false := by
  obtain rfl : f = 7 := Option.some.inj ((show Tryz.prog.funcNamed "simulacrum/simulacrumlaw12.CoreKeepsValid" = some 7 by kernel_rfl).symm.trans hf) |>.symm
  obtain rfl : fn = Tryz.f7 := (Option.some.inj (Tryz.func7.symm.trans hfn)).symm
  refine ⟨by kernel_rfl, fun j t ht => ?_⟩
  exact wants_none 7 Tryz.f7.params (by kernel_rfl) j t ht

set_option maxRecDepth 100000 in
/-- The card. -/
theorem coreKeepsValid_card : Rows.CoreKeepsValidCardSaid :=
  Claim7.holds_tied_plain_at .later [] _ _ _ _ coreKeepsValid_said (fun _ h => by cases h) (by kernel_rfl) (fun _ h => by cases h) coreKeepsValid_row_tie rfl ⟨rfl, rfl⟩ (by kernel_rfl) rfl coreKeepsValid_plain (by kernel_rfl)
#print axioms coreKeepsValid_card

end Go.Proofs.YtbhhhpglljkcpaaGreatDoor
