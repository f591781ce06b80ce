/-
CoreConfinesUsers: a user's step asks nothing, changes no control register, stores where it may; for every processor, memory and lines.
-/
import Derived.Test.YtidhodalnikhlaaGreatDoorZd
import Derived.Test.YtidhodalnikhlaaGreatDoorWv
import Derived.Test.YtidhodalnikhlaaGreatDoorVb
import Derived.Test.YtidhodalnikhlaaGreatDoorVj
import Derived.Test.YtidhodalnikhlaaGreatDoorCards
import Derived.Test.YtidhodalnikhlaaGreatDoorTie
namespace Go.Proofs.YtidhodalnikhlaaGreatDoor
open Go.RowKit Go.ChangeShapes Go.WideShapes Go.ChangeAt
noncomputable def laidWorld (os : Os) : World :=
  { World.holding Tryz.prog os ⟨#[], #[], []⟩ with heap := (World.holding Tryz.prog os ⟨#[], #[], []⟩).heap.modify 0 fun
      | .cells _ t frozen => .cells opCells.toArray t frozen
      | o => o }
theorem wants_none (_f : FuncId) (ps : Array TypeId) (h : (ps.toList.all fun t => !Tryz.prog.wantsStandIn t) = true) (j : Nat) (t : TypeId) (ht : ps[j]? = some t) : Tryz.prog.wantsStandIn t = false := by
  have := List.all_eq_true.1 h t (by rw [Array.mem_toList_iff]; exact Array.mem_of_getElem? ht)
  simpa using this
theorem wf_rv {x : Cpu} (h : x.wf) : x.Rv := by
  intro k hk
  have g : ∀ z : Int, 0 ≤ z ∧ z ≤ 4294967295 → 0 ≤ z ∧ z < 4294967296 := fun z hz => ⟨hz.1, by omega⟩
  rcases (show k = 0 ∨ k = 1 ∨ k = 2 ∨ k = 3 ∨ k = 4 ∨ k = 5 ∨ k = 6 ∨ k = 7 ∨ k = 8 ∨ k = 9 ∨ k = 10 ∨ k = 11 ∨ k = 12 ∨ k = 13 ∨ k = 14 ∨ k = 15 by omega) with rfl | rfl | rfl | rfl | rfl | rfl | rfl | rfl | rfl | rfl | rfl | rfl | rfl | rfl | rfl | rfl
  · exact g x.r0 (h.1 x.r0 (by simp))
  · exact g x.r1 (h.1 x.r1 (by simp))
  · exact g x.r2 (h.1 x.r2 (by simp))
  · exact g x.r3 (h.1 x.r3 (by simp))
  · exact g x.r4 (h.1 x.r4 (by simp))
  · exact g x.r5 (h.1 x.r5 (by simp))
  · exact g x.r6 (h.1 x.r6 (by simp))
  · exact g x.r7 (h.1 x.r7 (by simp))
  · exact g x.r8 (h.1 x.r8 (by simp))
  · exact g x.r9 (h.1 x.r9 (by simp))
  · exact g x.r10 (h.1 x.r10 (by simp))
  · exact g x.r11 (h.1 x.r11 (by simp))
  · exact g x.r12 (h.1 x.r12 (by simp))
  · exact g x.r13 (h.1 x.r13 (by simp))
  · exact g x.r14 (h.1 x.r14 (by simp))
  · exact g x.r15 (h.1 x.r15 (by simp))
theorem wf_c0 {x : Cpu} (h : x.wf) : 0 ≤ x.c0 ∧ x.c0 ≤ 4294967295 := h.1 x.c0 (by simp)
theorem wf_pc {x : Cpu} (h : x.wf) : 0 ≤ x.pc ∧ x.pc ≤ 4294967295 := h.1 x.pc (by simp)
theorem cf_any (x : Cpu) (A : Option Addr) (n c : Nat) (b : Wm.Bs) (p : Int) (w : World) (hrv : x.Rv) (hc0 : 0 ≤ x.c0 ∧ x.c0 ≤ 4294967295) (hpcr : 0 ≤ x.pc ∧ x.pc ≤ 4294967295) (hc5 : Tm.isE x.c5) (hp : Tm.isE p) (hs : Sl w 128 A n (U b)) (hb : Wm.isBs b) (tab : Tab w) (hS : ∀ w', Tab w' → Calls Tryz.prog 11 #[] w' fun e w'' => e = .returned (.bool true) ∧ Later w' w'') :
    Calls Tryz.prog 8 #[.agg x.cells.toArray, .agg #[.slice A n c], .int .u32 p] w fun e w' => e = .returned (.bool true) ∧ Later w w' := by
  cases hR : RightB x n with
  | false => exact cf_r x A n c b p w hrv hc0 hpcr hc5 hp hs hb tab hS hR
  | true =>
    cases hu : x.u with
    | false => exact cf_k x A n c b p w hrv hc0 hpcr hc5 hp hs hb tab hS hR hu
    | true => exact cf_run x A n c b p w hrv hc0 hpcr hc5 hp hs hb tab hS hR hu
set_option maxRecDepth 100000 in
theorem coreConfinesUsers_contract (H : Type) (enc : TypeId × Value → H) (W : World) (base : Nat) (args : Array Value) (ds gs : List (DataW H)) (before : List MemPlace)
    (hval : ∀ (j : Nat) t v, Tryz.f8.params[j]? = some t → args[j]? = some v → Value.okWide Tryz.prog W .any base t v)
    (hW : DataW.Whole enc Tryz.prog Tryz.f8.params.toList Rows.coreConfinesUsersSpec.vars false W args.toList ds gs before) (hL : laidMetH Tryz.prog Rows.coreConfinesUsersRow.laid W) :
    Calls Tryz.prog 8 args W fun e W' => ∃ v, e = .returned v ∧ Rows.coreConfinesUsersSpec.post enc Tryz.prog Tryz.f8 false true false false W args v W' := by
  have hW' := hW
  have tab : Tab W := tab_of hL
  obtain ⟨p, q, hA0, hV, rfl, _, _⟩ := hW
  have hA : DataW.TrodAll enc Tryz.prog W 0 (fun _ => true) true Tryz.f8.params.toList args.toList ds p := hA0
  rw [Tryz.params8] at hA hval
  obtain ⟨v0, vs0, d0, ds0, p0, q0, hargs, rfl, rfl, h0, r0⟩ := trodAll_cons hA
  obtain ⟨v1, vs1, d1, ds1, p1, q1, rfl, rfl, rfl, h1, r1⟩ := trodAll_cons r0
  obtain ⟨v2, vs2, d2, ds2, p2, q2, rfl, rfl, rfl, h2, r2⟩ := trodAll_cons r1
  obtain ⟨rfl, rfl, rfl⟩ := trodAll_nil r2
  obtain rfl : args = #[v0, v1, v2] := by cases args; simp_all
  obtain ⟨rfl, rfl⟩ := trodVars_none hV
  obtain ⟨x0, rfl, z0⟩ := cpu_open (hval 0 26 v0 rfl rfl) h0
  obtain ⟨A1, n1, c1, b1, rfl, x1, y1, s1, z1⟩ := mem_arg (K := 128) (by omega) Tryz.underlying29 rfl Tryz.underlying27 Tryz.underlying55 Tryz.underlying5 (by kernel_rfl) (by kernel_rfl) (by kernel_rfl) (by kernel_rfl) (hval 1 29 v1 rfl rfl) h1
  obtain ⟨q2, rfl, y2⟩ := u32_arg Tryz.underlying22 (hval 2 22 v2 rfl rfl) h2
  have w2 : Tm.isE q2 := ⟨y2.1, by have := y2.2; omega⟩
  clear hA0
  simp only [List.append_nil] at hW'
  refine (cf_any x0 A1 n1 c1 b1 q2 W (wf_rv z0) (wf_c0 z0) (wf_pc z0) z0.c5 w2 s1 z1 tab (fun w' t => sanity_any w' t)).mono fun e W' ⟨he, hw⟩ => ?_
  subst he
  exact ⟨_, rfl, law_post laidK rfl (by kernel_rfl) (by kernel_rfl) Tryz.underlying4 (by kernel_rfl) hW' rfl hw⟩
set_option maxRecDepth 100000 in
theorem coreConfinesUsers_met (os : Os) : laidMet Tryz.prog Rows.coreConfinesUsersRow.laid ((laidWorld os).forCall (fun _ _ => 0) ⟨#[], #[.agg #[.int .u32 0, .int .u32 0, .int .u32 0, .int .u32 0, .int .u32 0, .int .u32 0, .int .u32 0, .int .u32 0, .int .u32 0, .int .u32 0, .int .u32 0, .int .u32 0, .int .u32 0, .int .u32 0, .int .u32 0, .int .u32 0, .int .u32 0, .int .u32 0, .int .u32 0, .int .u32 0, .int .u32 0, .int .u32 0, .int .u32 0, .int .u32 0, .int .u32 0, .int .u32 0, .bool false, .bool false, .bool false, .int .i64 0], .agg #[.slice none 0 0], .int .u32 0], []⟩).memory :=
  laidMet_of_run' 8 (by kernel_rfl) (by kernel_rfl)
set_option maxRecDepth 100000 in
theorem coreConfinesUsers_reads (os : Os) {H : Type} (enc : TypeId × Value → H) : ∃ places, DataW.whole enc Tryz.prog ((laidWorld os).forCall (fun _ _ => 0) ⟨#[], #[.agg #[.int .u32 0, .int .u32 0, .int .u32 0, .int .u32 0, .int .u32 0, .int .u32 0, .int .u32 0, .int .u32 0, .int .u32 0, .int .u32 0, .int .u32 0, .int .u32 0, .int .u32 0, .int .u32 0, .int .u32 0, .int .u32 0, .int .u32 0, .int .u32 0, .int .u32 0, .int .u32 0, .int .u32 0, .int .u32 0, .int .u32 0, .int .u32 0, .int .u32 0, .int .u32 0, .bool false, .bool false, .bool false, .int .i64 0], .agg #[.slice none 0 0], .int .u32 0], []⟩).memory Tryz.f8.params.toList Rows.coreConfinesUsersSpec.vars false (#[.agg #[.int .u32 0, .int .u32 0, .int .u32 0, .int .u32 0, .int .u32 0, .int .u32 0, .int .u32 0, .int .u32 0, .int .u32 0, .int .u32 0, .int .u32 0, .int .u32 0, .int .u32 0, .int .u32 0, .int .u32 0, .int .u32 0, .int .u32 0, .int .u32 0, .int .u32 0, .int .u32 0, .int .u32 0, .int .u32 0, .int .u32 0, .int .u32 0, .int .u32 0, .int .u32 0, .bool false, .bool false, .bool false, .int .i64 0], .agg #[.slice none 0 0], .int .u32 0] : Array Value).toList 8 = some ([.agg [.lit (.int .u32 0), .agg [.lit (.int .u32 0), .lit (.int .u32 0), .lit (.int .u32 0), .lit (.int .u32 0), .lit (.int .u32 0), .lit (.int .u32 0), .lit (.int .u32 0), .lit (.int .u32 0), .lit (.int .u32 0), .lit (.int .u32 0), .lit (.int .u32 0), .lit (.int .u32 0), .lit (.int .u32 0), .lit (.int .u32 0), .lit (.int .u32 0), .lit (.int .u32 0)], .agg [.lit (.int .u32 0), .lit (.int .u32 0), .lit (.int .u32 0), .lit (.int .u32 0), .lit (.int .u32 0), .lit (.int .u32 0), .lit (.int .u32 0), .lit (.int .u32 0), .lit (.int .u32 0)], .lit (.bool false), .lit (.bool false), .lit (.bool false), .lit (.int .i64 0)], .agg [.nil], .lit (.int .u32 0)], [], places) :=
  ⟨[], by kernel_rfl⟩
set_option maxRecDepth 100000 in
theorem coreConfinesUsers_lifted (os : Os) (started : os.Started) (H : Type) (enc : TypeId × Value → H) (F : Stop.Interp) :
    ReturnsInHanded {} Tryz.checked os 8 .any ((OpenSpec.ofChange Rows.coreConfinesUsersSpec).preRow enc Tryz.prog Tryz.f8 Rows.coreConfinesUsersRow.domain false Rows.coreConfinesUsersRow.laid) (((OpenSpec.ofChange Rows.coreConfinesUsersSpec).at F).post enc Tryz.prog Tryz.f8 false true false false) := by
  obtain ⟨places, hx⟩ := coreConfinesUsers_reads os enc
  refine returnsInHanded_of_row (C := Tryz.checked) (s := OpenSpec.ofChange Rows.coreConfinesUsersSpec) ownK started (by kernel_rfl) Tryz.func8
    (witness_row_at (enc := enc) (C := Tryz.checked) false (laidWorld os) #[.agg #[.int .u32 0, .int .u32 0, .int .u32 0, .int .u32 0, .int .u32 0, .int .u32 0, .int .u32 0, .int .u32 0, .int .u32 0, .int .u32 0, .int .u32 0, .int .u32 0, .int .u32 0, .int .u32 0, .int .u32 0, .int .u32 0, .int .u32 0, .int .u32 0, .int .u32 0, .int .u32 0, .int .u32 0, .int .u32 0, .int .u32 0, .int .u32 0, .int .u32 0, .int .u32 0, .bool false, .bool false, .bool false, .int .i64 0], .agg #[.slice none 0 0], .int .u32 0] rfl (by kernel_rfl) (by kernel_rfl) (by kernel_rfl)
      (OpenSpec.preRow_of_cond 8 hx (by kernel_rfl) (fun k hk => by cases hk) (by kernel_rfl) (coreConfinesUsers_met os))) ?_
  intro W base args ds gs before hval hW _ _ _ hL _ _
  exact coreConfinesUsers_contract H enc W base args ds gs before hval hW hL
set_option maxRecDepth 100000 in
theorem coreConfinesUsers_said : Rows.CoreConfinesUsersSaid :=
  OpenClaim.holds_of_cond 8 Tryz.f8 rfl rfl rfl rfl rfl rfl rfl ⟨rfl, rfl, rfl, rfl, rfl⟩ rfl rfl rfl rfl rfl (by kernel_rfl) Tryz.func8 (by kernel_rfl)
    (of_decide_eq_true (by kernel_rfl)) (by unfold Func.isWrapper; first | (rw [if_pos (by decide +kernel)]; kernel_rfl) | (rw [if_neg (by decide +kernel)]; exact ⟨rfl, rfl⟩))
    (fun os started H enc _ F => by rw [OpenClaim.pre_eq_preRow]; exact coreConfinesUsers_lifted os started H enc F)
set_option maxRecDepth 100000 in
theorem coreConfinesUsers_plain (f : FuncId) (fn : Func) (hf : Tryz.pinned.checked.prog.funcNamed "simulacrum/simulacrumlaw12.CoreConfinesUsers" = some f) (hfn : Tryz.pinned.checked.prog.funcs[f]? = some fn) :
    true = Tryz.pinned.checked.prog.looks [] ∧ ∀ (j : Nat) t, fn.params[j]? = some t → Tryz.pinned.checked.prog.wantsStandIn t = false := by
  obtain rfl : f = 8 := Option.some.inj ((show Tryz.prog.funcNamed "simulacrum/simulacrumlaw12.CoreConfinesUsers" = some 8 by kernel_rfl).symm.trans hf) |>.symm
  obtain rfl : fn = Tryz.f8 := (Option.some.inj (Tryz.func8.symm.trans hfn)).symm
  refine ⟨by kernel_rfl, fun j t ht => ?_⟩
  exact wants_none 8 Tryz.f8.params (by kernel_rfl) j t ht
set_option maxRecDepth 100000 in
theorem coreConfinesUsers_card : Rows.CoreConfinesUsersCardSaid :=
  Claim7.holds_tied_plain_at .later [] _ _ _ _ coreConfinesUsers_said (fun _ h => by cases h) (by kernel_rfl) (fun _ h => by cases h) coreConfinesUsers_row_tie rfl ⟨rfl, rfl⟩ (by kernel_rfl) rfl coreConfinesUsers_plain (by kernel_rfl)
#print axioms coreConfinesUsers_card
end Go.Proofs.YtidhodalnikhlaaGreatDoor
