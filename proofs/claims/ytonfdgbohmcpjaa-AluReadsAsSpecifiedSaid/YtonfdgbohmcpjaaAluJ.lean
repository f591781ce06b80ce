/-
  WHAT EVERY STATEMENT OF alu NEEDS: its end; the sanity check; Do and Taken by what they answer.
-/
import Derived.Test.YtonfdgbohmcpjaaAluD
import Derived.Test.YtonfdgbohmcpjaaAluE
namespace Go.Proofs.Ytonfdgbohmcpjaa
open Go.RowKit Go.ChangeShapes Go.WideShapes Go.ChangeAt

theorem ownK : ownKnob Try.prog.godebug = none := by kernel_rfl
theorem laidK : laidOutB Try.prog = true := by kernel_rfl

section
variable {H : Type} {enc : TypeId × Value → H} {P : Program}
/-- Arguments read in a later world as they did. -/
theorem all_later (hl : laidOutB P = true) {W W' : World} (hb : Later W W') (sp : Nat → Bool) : ∀ {ts : List TypeId} {vs : List Value} {ds : List (DataW H)} {ps : List MemPlace},
    (ts.all fun t => P.readableRec t && decide (t < P.types.size)) = true → DataW.TrodAll enc P W 0 (fun _ => true) true ts vs ds ps → (∀ x ∈ ps, x.block < W.heap.size) → (∀ x ∈ ps, sp x.block = true) → DataW.TrodAll enc P W' 0 sp true ts vs ds ps := by
  intro ts
  induction ts with
  | nil => intro vs ds ps _ h _ _; obtain ⟨rfl, rfl, rfl⟩ := trodAll_nil h; exact trodAll_mk0
  | cons t ts ih =>
    intro vs ds ps hr h hlt hsp
    obtain ⟨v, vs', d, ds', p, q, rfl, rfl, rfl, h0, h1⟩ := trodAll_cons h
    simp only [List.all_cons, Bool.and_eq_true, decide_eq_true_eq] at hr
    exact trodAll_cons_mk (WideElems.Trod_stays hl hr.1.1 hr.1.2 h0 (fun x hx => hb.same (hlt x (by simp [hx]))) (fun x hx => hsp x (by simp [hx]))) (ih hr.2 h1 (fun x hx => hlt x (by simp [hx])) (fun x hx => hsp x (by simp [hx])))

/-- The end of every statement: true, and nothing that was there has turned. -/
theorem law_post {f : Func} {s : ChangeSpec} {W W' : World} {args : Array Value} {ds gs : List (DataW H)} {before : List MemPlace} {tb : TypeId} (hl : laidOutB P = true)
    (hv : s.vars = []) (hr : f.resultTypes.toList = [tb]) (hn : f.resultTypes.size = 1) (htb : P.underlying tb = some .bool) (hrows : (f.params.toList.all fun t => P.readableRec t && decide (t < P.types.size)) = true)
    (hW : DataW.Whole enc P f.params.toList s.vars false W args.toList ds gs before) (hs : s.fn H (ds ++ gs) = { results := [.lit (.bool true)], args := ds }) (hb : Later W W') :
    s.post enc P f false true false false W args (.bool true) W' := by
  have hlt : ∀ p ∈ before, p.block < W.heap.size := fun p hp => hW.lt p hp
  have hW0 := hW
  obtain ⟨p, q, hA, hV, rfl, _, _⟩ := hW
  rw [hv] at hV
  obtain ⟨rfl, rfl⟩ := trodVars_none hV
  simp only [List.append_nil] at hlt hW0
  refine ⟨ds, [], p, [], p, [], hW0, ?_, ?_, ?_, World.keptBut_mono (fun x hx => ⟨hx, .inr (.inl hx)⟩) (hb.frame (· ∈ p)), fun h => by cases h⟩
  · rw [hs, hr, hn]
    exact trodAll_mk1 (shut_bool htb _)
  · rw [hs]
    exact all_later hl hb _ hrows hA hlt (fun x hx => by simpa using hlt x hx)
  · rw [hs, hv]
    rfl
end


theorem dk {bI cI rI : Int} {s t r : BitVec 32} (op : Int) (hb : bI = Al.wI s) (hc : cI = Al.wI t) (hr : rI = Al.wI r) (h : Al.dob op s t = r) :
    Hid (∀ w, Calls Try.prog 23 #[.int .i64 op, .int .u32 bI, .int .u32 cI] w fun e w' => e = .returned (.int .u32 rI) ∧ Later w w') := by
  subst hb hc hr h
  refine Lib.hid fun w => ?_
  rw [← Al.I_w]
  exact ldo_any (Al.wI_nn _) (Al.wI_lt _) (Al.wI_nn _) (Al.wI_lt _) w op
theorem tk {bI cI : Int} {s t : BitVec 32} {r : Bool} (op : Int) (hb : bI = Al.wI s) (hc : cI = Al.wI t) (h : Al.tkb op s t = r) :
    Hid (∀ w, Calls Try.prog 13 #[.int .i64 op, .int .u32 bI, .int .u32 cI] w fun e w' => e = .returned (.bool r) ∧ Later w w') := by
  subst hb hc h
  refine Lib.hid fun w => ?_
  rw [← Al.T_w]
  exact tk_any (Al.wI_nn _) (Al.wI_lt _) (Al.wI_nn _) (Al.wI_lt _) w op
theorem same_later {f : FuncId} {args : Array Value} {w : World} {v : Value} (h : Calls Try.prog f args w fun e w' => e = .returned v ∧ w = w') : Calls Try.prog f args w fun e w' => e = .returned v ∧ Later w w' :=
  h.mono fun _ _ ⟨h1, h2⟩ => ⟨h1, h2 ▸ Below.refl _ _⟩

set_option maxRecDepth 100000 in
set_option maxHeartbeats 1000000 in
theorem sanity_any (w : World) : Calls Try.prog 12 #[] w fun e w' => e = .returned (.bool true) ∧ Later w w' := by
  have HD : Hid (∀ w, Calls Try.prog 10 #[.int .i64 13, .int .u32 1, .int .u32 1] w fun e w' => e = .returned (.tuple #[.int .u32 0, .int .i64 1]) ∧ Later w w') := Lib.hid fun w => don_any w 13 (by omega)
  have G0 : Hid (∀ w, Calls Try.prog 30 #[.int .i64 2, .int .u32 3, .int .u32 5, .int .u32 4294967294] w fun e w' => e = .returned (.bool true) ∧ Later w w') := Lib.hid fun w => gives_any (by omega) (by omega) (by omega) (by omega) w 2 4294967294 (by omega) (by decide +kernel)
  have G1 : Hid (∀ w, Calls Try.prog 30 #[.int .i64 9, .int .u32 7, .int .u32 0, .int .u32 4294967295] w fun e w' => e = .returned (.bool true) ∧ Later w w') := Lib.hid fun w => gives_any (by omega) (by omega) (by omega) (by omega) w 9 4294967295 (by omega) (by decide +kernel)
  have G2 : Hid (∀ w, Calls Try.prog 30 #[.int .i64 10, .int .u32 7, .int .u32 0, .int .u32 7] w fun e w' => e = .returned (.bool true) ∧ Later w w') := Lib.hid fun w => gives_any (by omega) (by omega) (by omega) (by omega) w 10 7 (by omega) (by decide +kernel)
  have G3 : Hid (∀ w, Calls Try.prog 30 #[.int .i64 6, .int .u32 1, .int .u32 33, .int .u32 2] w fun e w' => e = .returned (.bool true) ∧ Later w w') := Lib.hid fun w => gives_any (by omega) (by omega) (by omega) (by omega) w 6 2 (by omega) (by decide +kernel)
  have G4 : Hid (∀ w, Calls Try.prog 30 #[.int .i64 11, .int .u32 4294967295, .int .u32 0, .int .u32 1] w fun e w' => e = .returned (.bool true) ∧ Later w w') := Lib.hid fun w => gives_any (by omega) (by omega) (by omega) (by omega) w 11 1 (by omega) (by decide +kernel)
  have G5 : Hid (∀ w, Calls Try.prog 30 #[.int .i64 12, .int .u32 4294967295, .int .u32 0, .int .u32 0] w fun e w' => e = .returned (.bool true) ∧ Later w w') := Lib.hid fun w => gives_any (by omega) (by omega) (by omega) (by omega) w 12 0 (by omega) (by decide +kernel)
  have C0 : Hid (∀ w, Calls Try.prog 13 #[.int .i64 30, .int .u32 2147483648, .int .u32 0] w fun e w' => e = .returned (.bool true) ∧ Later w w') := Lib.hid fun w => by
    have h := tk_any (b := 2147483648) (c := 0) (by omega) (by omega) (by omega) (by omega) w 30
    rw [show Al.T 30 2147483648 0 = true by decide +kernel] at h
    exact h
  have C1 : Hid (∀ w, Calls Try.prog 13 #[.int .i64 31, .int .u32 2147483648, .int .u32 0] w fun e w' => e = .returned (.bool false) ∧ Later w w') := Lib.hid fun w => by
    have h := tk_any (b := 2147483648) (c := 0) (by omega) (by omega) (by omega) (by omega) w 31
    rw [show Al.T 31 2147483648 0 = false by decide +kernel] at h
    exact h
  have C2 : Hid (∀ w, Calls Try.prog 17 #[.int .u32 2147483648] w fun e w' => e = .returned (.int .i64 (-2147483648)) ∧ Later w w') := Lib.hid fun w => by
    have h := same_later (signed_any (b := 2147483648) (by omega) (by omega) w)
    rw [show Al.S 2147483648 = -2147483648 by decide +kernel] at h
    exact h
  have C3 : Hid (∀ w, Calls Try.prog 15 #[.int .u32 131071, .int .i64 18] w fun e w' => e = .returned (.int .u32 131071) ∧ Later w w') := Lib.hid fun w => by
    have h := same_later (extend_any (x := 131071) w (by omega) (by omega) 18 (by omega) (by omega))
    rw [show Al.X 18 131071 = 131071 by decide +kernel] at h
    exact h
  have C4 : Hid (∀ w, Calls Try.prog 15 #[.int .u32 131072, .int .i64 18] w fun e w' => e = .returned (.int .u32 4294836224) ∧ Later w w') := Lib.hid fun w => by
    have h := same_later (extend_any (x := 131072) w (by omega) (by omega) 18 (by omega) (by omega))
    rw [show Al.X 18 131072 = 4294836224 by decide +kernel] at h
    exact h
  have C5 : Hid (∀ w, Calls Try.prog 19 #[.int .u32 16909060, .int .i64 0] w fun e w' => e = .returned (.int .u8 4) ∧ Later w w') := Lib.hid fun w => by
    have h := same_later (byte_any 16909060 0 w)
    rw [show Al.BY 16909060 (8 * (0 % 4)) = 4 by decide +kernel] at h
    exact h
  have C6 : Hid (∀ w, Calls Try.prog 19 #[.int .u32 16909060, .int .i64 3] w fun e w' => e = .returned (.int .u8 1) ∧ Later w w') := Lib.hid fun w => by
    have h := same_later (byte_any 16909060 3 w)
    rw [show Al.BY 16909060 (8 * (3 % 4)) = 1 by decide +kernel] at h
    exact h
  have C7 : Hid (∀ w, Calls Try.prog 19 #[.int .u32 16909060, .int .i64 (-1)] w fun e w' => e = .returned (.int .u8 1) ∧ Later w w') := Lib.hid fun w => by
    have h := same_later (byte_any 16909060 (-1) w)
    rw [show Al.BY 16909060 (8 * (-1 % 4)) = 1 by decide +kernel] at h
    exact h
  have C8 : Hid (∀ w, Calls Try.prog 21 #[.int .u32 16909060, .int .i64 1, .int .u8 255] w fun e w' => e = .returned (.int .u32 16973572) ∧ Later w w') := Lib.hid fun w => by
    have h := set_any (x := 16909060) (by omega) (by omega) w 1 255 (by omega) (by omega)
    rw [show Al.SB 16909060 (8 * (1 % 4)) 255 = 16973572 by decide +kernel] at h
    exact h
  have HW : Hid (Later w w) := Lib.hid (Below.refl _ _)
  go_enter Try.func12, Try.ntmps12
  go_wp2_with (first
    | (go_at_call 10; refine (HD.out _).mono ?_; rintro e w1 ⟨rfl, l1⟩)
    | (go_at_call 30; (first | (with_reducible refine (G0.out _).mono ?_) | (with_reducible refine (G1.out _).mono ?_) | (with_reducible refine (G2.out _).mono ?_) | (with_reducible refine (G3.out _).mono ?_) | (with_reducible refine (G4.out _).mono ?_) | (with_reducible refine (G5.out _).mono ?_)); rintro e w1 ⟨rfl, g1⟩)
    | (go_at_call 13; (first | (with_reducible refine (C0.out _).mono ?_) | (with_reducible refine (C1.out _).mono ?_)); rintro e w1 ⟨rfl, c0⟩)
    | (go_at_call 17; (first | (with_reducible refine (C2.out _).mono ?_)); rintro e w1 ⟨rfl, c2⟩)
    | (go_at_call 15; (first | (with_reducible refine (C3.out _).mono ?_) | (with_reducible refine (C4.out _).mono ?_)); rintro e w1 ⟨rfl, c3⟩)
    | (go_at_call 19; (first | (with_reducible refine (C5.out _).mono ?_) | (with_reducible refine (C6.out _).mono ?_) | (with_reducible refine (C7.out _).mono ?_)); rintro e w1 ⟨rfl, c5⟩)
    | (go_at_call 21; (first | (with_reducible refine (C8.out _).mono ?_)); rintro e w1 ⟨rfl, c8⟩))
  go_ret
  exact ⟨rfl, by repeat (first | assumption | refine Later.trans_ ?_ (by assumption))⟩
end Go.Proofs.Ytonfdgbohmcpjaa
