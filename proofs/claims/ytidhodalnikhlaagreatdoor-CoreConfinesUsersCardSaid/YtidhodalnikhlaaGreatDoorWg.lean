/-
  find: THE THREE MAPS OF METHODS.
-/
import Derived.Test.YtidhodalnikhlaaGreatDoorWf
import Derived.Test.YtidhodalnikhlaaGreatDoorVl
namespace Go.Proofs.YtidhodalnikhlaaGreatDoor
open Go.RowKit Go.ChangeShapes Go.WideShapes Go.ChangeAt

section
variable {P : Program} {w : World} {b : Nat} {es : Array MapEntry} {c : Nat} {t kt e : TypeId}
theorem run_look1_hit (ht : P.underlying t = some (.map kt e)) (hk : P.underlying kt = some (.int .i64)) (hb : w.heap[b]? = some (.map es c)) (k : Int) (i : Nat) (v : Value)
    (hfn : Instr.findNow (.int .i64) (.int .i64 k) es.toList 0 = some (some (i, v))) : (Instr.lookup t (.map (some b)) (.int .i64 k) false).run P w = .ok v w := by
  have hc := fun x => run_ck (P := P) hk w x k
  simp [Instr.lookup, run_underlying ht, MapKept.run_getObj_map hb, hc, MapKept.run_findKey hk hfn, Result.andThen]
theorem run_look1_miss (ht : P.underlying t = some (.map kt e)) (hk : P.underlying kt = some (.int .i64)) {z : Value} (hz : (zeroValue e).run P w = .ok z w) (hb : w.heap[b]? = some (.map es c)) (k : Int)
    (hfn : Instr.findNow (.int .i64) (.int .i64 k) es.toList 0 = some none) : (Instr.lookup t (.map (some b)) (.int .i64 k) false).run P w = .ok z w := by
  have hc := fun x => run_ck (P := P) hk w x k
  simp [Instr.lookup, run_underlying ht, MapKept.run_getObj_map hb, hc, MapKept.run_findKey hk hfn, hz, Result.andThen]
end
def pvV (op : Int) : Value := if op = 41 then .func (.func 143) #[] #[] else if op = 42 then .func (.func 144) #[] #[] else if op = 43 then .func (.func 145) #[] #[] else if op = 44 then .func (.func 146) #[] #[] else if op = 45 then .func (.func 147) #[] #[] else if op = 46 then .func (.func 148) #[] #[] else if op = 47 then .func (.func 149) #[] #[] else if op = 48 then .func (.func 150) #[] #[] else .nilFunc
def pvE : Array MapEntry := #[⟨.int .i64 41, .func (.func 143) #[] #[], 0⟩, ⟨.int .i64 42, .func (.func 144) #[] #[], 1⟩, ⟨.int .i64 43, .func (.func 145) #[] #[], 2⟩, ⟨.int .i64 44, .func (.func 146) #[] #[], 3⟩, ⟨.int .i64 45, .func (.func 147) #[] #[], 4⟩, ⟨.int .i64 46, .func (.func 148) #[] #[], 5⟩, ⟨.int .i64 47, .func (.func 149) #[] #[], 6⟩, ⟨.int .i64 48, .func (.func 150) #[] #[], 7⟩]
theorem pv_look (op : Int) {w : World} {b c : Nat} (hb : w.heap[b]? = some (.map pvE c)) : (Instr.lookup 205 (.map (some b)) (.int .i64 op) false).run Tryz.prog w = .ok (pvV op) w := by
  by_cases h0 : op = 41
  · subst h0; exact run_look1_hit Tryz.underlying205 Tryz.underlying3 hb 41 0 _ rfl
  by_cases h1 : op = 42
  · subst h1; exact run_look1_hit Tryz.underlying205 Tryz.underlying3 hb 42 1 _ rfl
  by_cases h2 : op = 43
  · subst h2; exact run_look1_hit Tryz.underlying205 Tryz.underlying3 hb 43 2 _ rfl
  by_cases h3 : op = 44
  · subst h3; exact run_look1_hit Tryz.underlying205 Tryz.underlying3 hb 44 3 _ rfl
  by_cases h4 : op = 45
  · subst h4; exact run_look1_hit Tryz.underlying205 Tryz.underlying3 hb 45 4 _ rfl
  by_cases h5 : op = 46
  · subst h5; exact run_look1_hit Tryz.underlying205 Tryz.underlying3 hb 46 5 _ rfl
  by_cases h6 : op = 47
  · subst h6; exact run_look1_hit Tryz.underlying205 Tryz.underlying3 hb 47 6 _ rfl
  by_cases h7 : op = 48
  · subst h7; exact run_look1_hit Tryz.underlying205 Tryz.underlying3 hb 48 7 _ rfl
  have e1 : pvV op = .nilFunc := by unfold pvV; simp [h0, h1, h2, h3, h4, h5, h6, h7]
  rw [e1]
  refine run_look1_miss Tryz.underlying205 Tryz.underlying3 (by kernel_rfl) hb op ?_
  simp only [pvE, Instr.findNow, Instr.sameNow, beq_false_of_ne h0, beq_false_of_ne h1, beq_false_of_ne h2, beq_false_of_ne h3, beq_false_of_ne h4, beq_false_of_ne h5, beq_false_of_ne h6, beq_false_of_ne h7, if_true]

set_option maxRecDepth 100000 in
theorem pv_any (op : Int) (w : World) : Calls Tryz.prog 121 #[.int .i64 op] w fun e w' => e = .returned (pvV op) ∧ Later w w' := by
  have hmm := @run_makeMap Tryz.prog
  obtain ⟨v, hv⟩ : ∃ v, v = pvV op := ⟨_, rfl⟩
  have HL := Lib.hid fun (b c : Nat) (w' : World) (hb : w'.heap[b]? = some (.map pvE c)) => pv_look op hb
  rw [← hv] at HL ⊢
  clear hv
  have hb0 := heap_alloc_new w (.map #[] 0)
  have hl0 : Later w (w.alloc (.map #[] 0)) := (Below.refl _ _).alloc (Nat.le_refl _) _
  go_enter Tryz.func121, Tryz.ntmps121
  go_wp2_with (refine wpList_insert rfl _ _ _ rfl Tryz.underlying205 Tryz.underlying3 rfl (by assumption) (by assumption) _ _ rfl rfl rfl ?_; intro w' hb' hl'; try have hlk := HL.out _ _ _ hb')
  go_ret
  exact ⟨rfl, hl'⟩
def mvV (op : Int) : Value := if op = 16 then .func (.func 151) #[] #[] else if op = 17 then .func (.func 152) #[] #[] else if op = 20 then .func (.func 153) #[] #[] else if op = 22 then .func (.func 153) #[] #[] else if op = 21 then .func (.func 154) #[] #[] else if op = 23 then .func (.func 154) #[] #[] else if op = 24 then .func (.func 155) #[] #[] else .nilFunc
def mvE : Array MapEntry := #[⟨.int .i64 16, .func (.func 151) #[] #[], 0⟩, ⟨.int .i64 17, .func (.func 152) #[] #[], 1⟩, ⟨.int .i64 20, .func (.func 153) #[] #[], 2⟩, ⟨.int .i64 22, .func (.func 153) #[] #[], 3⟩, ⟨.int .i64 21, .func (.func 154) #[] #[], 4⟩, ⟨.int .i64 23, .func (.func 154) #[] #[], 5⟩, ⟨.int .i64 24, .func (.func 155) #[] #[], 6⟩]
def mvB (op : Int) : Bool := op == 16 || op == 17 || op == 20 || op == 22 || op == 21 || op == 23 || op == 24
theorem mv_look (op : Int) {w : World} {b c : Nat} (hb : w.heap[b]? = some (.map mvE c)) : (Instr.lookup 205 (.map (some b)) (.int .i64 op) true).run Tryz.prog w = .ok (.tuple #[mvV op, .bool (mvB op)]) w := by
  by_cases h0 : op = 16
  · subst h0; exact run_look_hit Tryz.underlying205 Tryz.underlying3 hb 16 0 _ rfl
  by_cases h1 : op = 17
  · subst h1; exact run_look_hit Tryz.underlying205 Tryz.underlying3 hb 17 1 _ rfl
  by_cases h2 : op = 20
  · subst h2; exact run_look_hit Tryz.underlying205 Tryz.underlying3 hb 20 2 _ rfl
  by_cases h3 : op = 22
  · subst h3; exact run_look_hit Tryz.underlying205 Tryz.underlying3 hb 22 3 _ rfl
  by_cases h4 : op = 21
  · subst h4; exact run_look_hit Tryz.underlying205 Tryz.underlying3 hb 21 4 _ rfl
  by_cases h5 : op = 23
  · subst h5; exact run_look_hit Tryz.underlying205 Tryz.underlying3 hb 23 5 _ rfl
  by_cases h6 : op = 24
  · subst h6; exact run_look_hit Tryz.underlying205 Tryz.underlying3 hb 24 6 _ rfl
  have e1 : mvV op = .nilFunc := by unfold mvV; simp [h0, h1, h2, h3, h4, h5, h6]
  have e2 : mvB op = false := by unfold mvB; simp [h0, h1, h2, h3, h4, h5, h6]
  rw [e1, e2]
  refine run_look_miss Tryz.underlying205 Tryz.underlying3 (by kernel_rfl) hb op ?_
  simp only [mvE, Instr.findNow, Instr.sameNow, beq_false_of_ne h0, beq_false_of_ne h1, beq_false_of_ne h2, beq_false_of_ne h3, beq_false_of_ne h4, beq_false_of_ne h5, beq_false_of_ne h6, if_true]

set_option maxRecDepth 100000 in
theorem mv_any (op : Int) (w : World) : Calls Tryz.prog 122 #[.int .i64 op] w fun e w' => e = .returned (.tuple #[mvV op, .bool (mvB op)]) ∧ Later w w' := by
  have hmm := @run_makeMap Tryz.prog
  obtain ⟨v, hv⟩ : ∃ v, v = mvV op := ⟨_, rfl⟩
  obtain ⟨q, hq⟩ : ∃ q, q = mvB op := ⟨_, rfl⟩
  have HL := Lib.hid fun (b c : Nat) (w' : World) (hb : w'.heap[b]? = some (.map mvE c)) => mv_look op hb
  rw [← hv, ← hq] at HL ⊢
  clear hv hq
  have hb0 := heap_alloc_new w (.map #[] 0)
  have hl0 : Later w (w.alloc (.map #[] 0)) := (Below.refl _ _).alloc (Nat.le_refl _) _
  go_enter Tryz.func122, Tryz.ntmps122
  go_wp2_with (refine wpList_insert rfl _ _ _ rfl Tryz.underlying205 Tryz.underlying3 rfl (by assumption) (by assumption) _ _ rfl rfl rfl ?_; intro w' hb' hl'; try have hlk := HL.out _ _ _ hb')
  go_ret2
  exact ⟨rfl, hl'⟩
def jmV (op : Int) : Value := if op = 28 then .func (.func 156) #[] #[] else if op = 29 then .func (.func 156) #[] #[] else if op = 30 then .func (.func 156) #[] #[] else if op = 31 then .func (.func 156) #[] #[] else if op = 32 then .func (.func 157) #[] #[] else if op = 33 then .func (.func 158) #[] #[] else if op = 40 then .func (.func 159) #[] #[] else .nilFunc
def jmE : Array MapEntry := #[⟨.int .i64 28, .func (.func 156) #[] #[], 0⟩, ⟨.int .i64 29, .func (.func 156) #[] #[], 1⟩, ⟨.int .i64 30, .func (.func 156) #[] #[], 2⟩, ⟨.int .i64 31, .func (.func 156) #[] #[], 3⟩, ⟨.int .i64 32, .func (.func 157) #[] #[], 4⟩, ⟨.int .i64 33, .func (.func 158) #[] #[], 5⟩, ⟨.int .i64 40, .func (.func 159) #[] #[], 6⟩]
theorem jm_look (op : Int) {w : World} {b c : Nat} (hb : w.heap[b]? = some (.map jmE c)) : (Instr.lookup 205 (.map (some b)) (.int .i64 op) false).run Tryz.prog w = .ok (jmV op) w := by
  by_cases h0 : op = 28
  · subst h0; exact run_look1_hit Tryz.underlying205 Tryz.underlying3 hb 28 0 _ rfl
  by_cases h1 : op = 29
  · subst h1; exact run_look1_hit Tryz.underlying205 Tryz.underlying3 hb 29 1 _ rfl
  by_cases h2 : op = 30
  · subst h2; exact run_look1_hit Tryz.underlying205 Tryz.underlying3 hb 30 2 _ rfl
  by_cases h3 : op = 31
  · subst h3; exact run_look1_hit Tryz.underlying205 Tryz.underlying3 hb 31 3 _ rfl
  by_cases h4 : op = 32
  · subst h4; exact run_look1_hit Tryz.underlying205 Tryz.underlying3 hb 32 4 _ rfl
  by_cases h5 : op = 33
  · subst h5; exact run_look1_hit Tryz.underlying205 Tryz.underlying3 hb 33 5 _ rfl
  by_cases h6 : op = 40
  · subst h6; exact run_look1_hit Tryz.underlying205 Tryz.underlying3 hb 40 6 _ rfl
  have e1 : jmV op = .nilFunc := by unfold jmV; simp [h0, h1, h2, h3, h4, h5, h6]
  rw [e1]
  refine run_look1_miss Tryz.underlying205 Tryz.underlying3 (by kernel_rfl) hb op ?_
  simp only [jmE, Instr.findNow, Instr.sameNow, beq_false_of_ne h0, beq_false_of_ne h1, beq_false_of_ne h2, beq_false_of_ne h3, beq_false_of_ne h4, beq_false_of_ne h5, beq_false_of_ne h6, if_true]

set_option maxRecDepth 100000 in
theorem jm_any (op : Int) (w : World) : Calls Tryz.prog 123 #[.int .i64 op] w fun e w' => e = .returned (jmV op) ∧ Later w w' := by
  have hmm := @run_makeMap Tryz.prog
  obtain ⟨v, hv⟩ : ∃ v, v = jmV op := ⟨_, rfl⟩
  have HL := Lib.hid fun (b c : Nat) (w' : World) (hb : w'.heap[b]? = some (.map jmE c)) => jm_look op hb
  rw [← hv] at HL ⊢
  clear hv
  have hb0 := heap_alloc_new w (.map #[] 0)
  have hl0 : Later w (w.alloc (.map #[] 0)) := (Below.refl _ _).alloc (Nat.le_refl _) _
  go_enter Tryz.func123, Tryz.ntmps123
  go_wp2_with (refine wpList_insert rfl _ _ _ rfl Tryz.underlying205 Tryz.underlying3 rfl (by assumption) (by assumption) _ _ rfl rfl rfl ?_; intro w' hb' hl'; try have hlk := HL.out _ _ _ hb')
  go_ret
  exact ⟨rfl, hl'⟩
/-- What find answers. -/
def fnd (op : Int) : Value := if Im.form op = 1 then .func (.func 120) #[] #[] else if 41 ≤ op ∧ op ≤ 48 then pvV op else if mvB op = true then mvV op else jmV op
set_option maxRecDepth 100000 in
theorem find_any (op : Int) (w : World) (tab : Tab w) : Calls Tryz.prog 78 #[.int .i64 op] w fun e w' => e = .returned (fnd op) ∧ Later w w' := by
  have HF := Lib.hid (form_any op w tab)
  have HP := Lib.hid fun w' => priv_any op w'
  have HV := Lib.hid fun w' => pv_any op w'
  have HM := Lib.hid fun w' => mv_any op w'
  have HJ := Lib.hid fun w' => jm_any op w'
  obtain ⟨r, hr⟩ : ∃ r, r = fnd op := ⟨_, rfl⟩
  rw [← hr]
  unfold fnd at hr
  clear tab
  obtain ⟨f, hf⟩ : ∃ f, f = Im.form op := ⟨_, rfl⟩
  rw [← hf] at HF hr
  clear hf
  obtain ⟨v1, hv1⟩ : ∃ v, v = pvV op := ⟨_, rfl⟩
  obtain ⟨v2, hv2⟩ : ∃ v, v = mvV op := ⟨_, rfl⟩
  obtain ⟨v3, hv3⟩ : ∃ v, v = jmV op := ⟨_, rfl⟩
  obtain ⟨mb, hmb⟩ : ∃ v, v = mvB op := ⟨_, rfl⟩
  obtain ⟨pb, hpb⟩ : ∃ v, v = decide (41 ≤ op ∧ op ≤ 48) := ⟨_, rfl⟩
  rw [← hv1] at HV hr
  rw [← hv2, ← hmb] at HM
  rw [← hv2, ← hmb, ← hv3] at hr
  rw [← hv3] at HJ
  rw [← hpb] at HP
  clear hv1 hv2 hv3 hmb
  by_cases h1 : f = 1
  · subst h1
    rw [if_pos rfl] at hr
    subst hr
    clear hpb
    go_enter Tryz.func78, Tryz.ntmps78
    go_wp2_with (first | (go_at_call 93; refine HF.out.mono ?_; rintro e w1 ⟨rfl, l1⟩) | (go_at_call 119; refine (HP.out _).mono ?_; rintro e w2 ⟨rfl, rfl⟩) | (go_at_call 121; refine (HV.out _).mono ?_; rintro e w3 ⟨rfl, l3⟩) | (go_at_call 122; refine (HM.out _).mono ?_; rintro e w4 ⟨rfl, l4⟩) | (go_at_call 123; refine (HJ.out _).mono ?_; rintro e w5 ⟨rfl, l5⟩))
    (go_ret; exact ⟨rfl, by repeat (first | assumption | refine Later.trans_ ?_ (by assumption))⟩)
  rw [if_neg h1] at hr
  have hf1 : (f == 1) = false := beq_false_of_ne h1
  clear h1
  cases pb with
  | true =>
    rw [if_pos (of_decide_eq_true hpb.symm)] at hr
    subst hr
    clear hpb
    go_enter Tryz.func78, Tryz.ntmps78
    go_wp2_with (first | (go_at_call 93; refine HF.out.mono ?_; rintro e w1 ⟨rfl, l1⟩) | (go_at_call 119; refine (HP.out _).mono ?_; rintro e w2 ⟨rfl, rfl⟩) | (go_at_call 121; refine (HV.out _).mono ?_; rintro e w3 ⟨rfl, l3⟩) | (go_at_call 122; refine (HM.out _).mono ?_; rintro e w4 ⟨rfl, l4⟩) | (go_at_call 123; refine (HJ.out _).mono ?_; rintro e w5 ⟨rfl, l5⟩))
    (go_ret; exact ⟨rfl, by repeat (first | assumption | refine Later.trans_ ?_ (by assumption))⟩)
  | false =>
    rw [if_neg (of_decide_eq_false hpb.symm)] at hr
    clear hpb
    cases mb with
    | true =>
      rw [if_pos rfl] at hr
      subst hr
      go_enter Tryz.func78, Tryz.ntmps78
      go_wp2_with (first | (go_at_call 93; refine HF.out.mono ?_; rintro e w1 ⟨rfl, l1⟩) | (go_at_call 119; refine (HP.out _).mono ?_; rintro e w2 ⟨rfl, rfl⟩) | (go_at_call 121; refine (HV.out _).mono ?_; rintro e w3 ⟨rfl, l3⟩) | (go_at_call 122; refine (HM.out _).mono ?_; rintro e w4 ⟨rfl, l4⟩) | (go_at_call 123; refine (HJ.out _).mono ?_; rintro e w5 ⟨rfl, l5⟩))
      (go_ret; exact ⟨rfl, by repeat (first | assumption | refine Later.trans_ ?_ (by assumption))⟩)
    | false =>
      rw [if_neg (by decide)] at hr
      subst hr
      go_enter Tryz.func78, Tryz.ntmps78
      go_wp2_with (first | (go_at_call 93; refine HF.out.mono ?_; rintro e w1 ⟨rfl, l1⟩) | (go_at_call 119; refine (HP.out _).mono ?_; rintro e w2 ⟨rfl, rfl⟩) | (go_at_call 121; refine (HV.out _).mono ?_; rintro e w3 ⟨rfl, l3⟩) | (go_at_call 122; refine (HM.out _).mono ?_; rintro e w4 ⟨rfl, l4⟩) | (go_at_call 123; refine (HJ.out _).mono ?_; rintro e w5 ⟨rfl, l5⟩))
      (go_ret; exact ⟨rfl, by repeat (first | assumption | refine Later.trans_ ?_ (by assumption))⟩)
end Go.Proofs.YtidhodalnikhlaaGreatDoor
