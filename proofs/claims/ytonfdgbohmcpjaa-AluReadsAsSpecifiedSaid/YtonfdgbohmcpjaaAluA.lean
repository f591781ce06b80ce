/-
  THE WALKS OF alu: the maps of operations.
-/
import Derived.Test.YtonfdgbohmcpjaaAluMath
import Derived.Test.YtonfdgbohmcpjaaHashMem
import Derived.Test.YtonfdgbohmcpjaaRows
import Derived.Maps.Own
import Derived.WalkLawsBesides
import Derived.Deep.Draws
import Derived.ProofKit
import Derived.OpenShut
import Derived.Deep.Slices
namespace Go.Proofs.Ytonfdgbohmcpjaa
open Go.RowKit Go.ChangeShapes Go.WideShapes Go.ChangeAt


section
variable {P : Program} {w : World} {b : Nat} {es : Array MapEntry} {c : Nat} {t kt e : TypeId}
theorem run_ck (hk : P.underlying kt = some (.int .i64)) (w : World) (x : Bool) (k : Int) : (Instr.checkKey x 10000 kt (.int .i64 k)).run P w = .ok () w := by
  unfold Instr.checkKey
  simp only [Sem.run_bind, run_underlying hk, Result.andThen]
  rfl
theorem run_insert (ht : P.underlying t = some (.map kt e)) (hk : P.underlying kt = some (.int .i64)) (hb : w.heap[b]? = some (.map es c)) (k : Int) (val : Value)
    (hfn : Instr.findNow (.int .i64) (.int .i64 k) es.toList 0 = some none) :
    (Instr.mapUpdate t (.map (some b)) (.int .i64 k) val).run P w = .ok () (Go.ChangeMaps.setBlock w b (.map (es.push ⟨.int .i64 k, val, c⟩) (c + 1))) := by
  have hc : (Instr.checkKey false 10000 kt (.int .i64 k)).run P w = .ok () w := run_ck hk w false k
  simp [Instr.mapUpdate, run_underlying ht, MapKept.run_getObj_map hb, hc, MapKept.run_findKey hk hfn, MapKept.run_setObj_map _ hb, Result.andThen, Go.ChangeMaps.setBlock]
theorem run_look_hit (ht : P.underlying t = some (.map kt e)) (hk : P.underlying kt = some (.int .i64)) (hb : w.heap[b]? = some (.map es c)) (k : Int) (i : Nat) (v : Value)
    (hfn : Instr.findNow (.int .i64) (.int .i64 k) es.toList 0 = some (some (i, v))) : (Instr.lookup t (.map (some b)) (.int .i64 k) true).run P w = .ok (.tuple #[v, .bool true]) w := by
  have hc := fun x => run_ck (P := P) hk w x k
  simp [Instr.lookup, run_underlying ht, MapKept.run_getObj_map hb, hc, MapKept.run_findKey hk hfn, Result.andThen]
theorem run_look_miss (ht : P.underlying t = some (.map kt e)) (hk : P.underlying kt = some (.int .i64)) {z : Value} (hz : (zeroValue e).run P w = .ok z w) (hb : w.heap[b]? = some (.map es c)) (k : Int)
    (hfn : Instr.findNow (.int .i64) (.int .i64 k) es.toList 0 = some none) : (Instr.lookup t (.map (some b)) (.int .i64 k) true).run P w = .ok (.tuple #[z, .bool false]) w := by
  have hc := fun x => run_ck (P := P) hk w x k
  simp [Instr.lookup, run_underlying ht, MapKept.run_getObj_map hb, hc, MapKept.run_findKey hk hfn, hz, Result.andThen]
/-- A map literal's entry, at the operation. -/
theorem wpList_insert {w0 : World} {ops : Array Oper} {rest : List Oper} {o : Oper} {a : Act} {Q : Exit → Act → World → Prop}
    (hg : o.guard = none) (m x v : Operand) (hop : o.op = Op.insert t m x v) (ht : P.underlying t = some (.map kt e)) (hk : P.underlying kt = some (.int .i64))
    (hm : a.eval m = .map (some b)) (hb : w.heap[b]? = some (.map es c)) (hl : Below b w0 w) (k : Int) (val : Value) (hx : a.eval x = .int .i64 k) (hv : a.eval v = val)
    (hfn : Instr.findNow (.int .i64) (.int .i64 k) es.toList 0 = some none)
    (hK : ∀ w', w'.heap[b]? = some (.map (es.push ⟨.int .i64 k, val, c⟩) (c + 1)) → Below b w0 w' → wpList P ops Q rest (a.put o.dst undef) w') :
    wpList P ops Q (o :: rest) a w := by
  refine wpList_plain hg fun K' hK' => ?_
  have hrun := run_insert ht hk hb k val hfn
  unfold Oper.wp
  simp only [execOp, hop, hm, hx, hv, Sem.run_bind, hrun, Result.andThen, Sem.run_pure]
  refine hK' _ _ (hK _ (Go.ChangeMaps.heap_setBlock_same hb _) ?_)
  have hlt : b < w.heap.size := by
    rcases Nat.lt_or_ge b w.heap.size with h1 | h1
    · exact h1
    · rw [Array.getElem?_eq_none h1] at hb; cases hb
  have hG : w.grownBy (Go.ChangeMaps.setBlock w b (.map (es.push ⟨.int .i64 k, val, c⟩) (c + 1))) (some b) := ⟨rfl, rfl, rfl, by simp [Go.ChangeMaps.setBlock], fun i _ hi => Go.ChangeMaps.heap_setBlock_other hb _ (fun e => hi (by rw [e]))⟩
  exact hl.grown hG (Nat.le_of_lt hlt) (fun k hk => by cases hk; exact Nat.le_refl _)
end

/-- What the map of arithmetic has for a number. -/
def arV (op : Int) : Value := if op = 1 then .func (.func 35) #[] #[] else if op = 2 then .func (.func 36) #[] #[] else if op = 8 then .func (.func 37) #[] #[] else if op = 9 then .func (.func 38) #[] #[] else if op = 10 then .func (.func 39) #[] #[] else .nilFunc
def arB (op : Int) : Bool := op == 1 || op == 2 || op == 8 || op == 9 || op == 10
def arE : Array MapEntry := #[⟨.int .i64 1, .func (.func 35) #[] #[], 0⟩, ⟨.int .i64 2, .func (.func 36) #[] #[], 1⟩, ⟨.int .i64 8, .func (.func 37) #[] #[], 2⟩, ⟨.int .i64 9, .func (.func 38) #[] #[], 3⟩, ⟨.int .i64 10, .func (.func 39) #[] #[], 4⟩]
theorem ar_look (op : Int) {w : World} {b c : Nat} (hb : w.heap[b]? = some (.map arE c)) : (Instr.lookup 52 (.map (some b)) (.int .i64 op) true).run Try.prog w = .ok (.tuple #[arV op, .bool (arB op)]) w := by
  by_cases h0 : op = 1
  · subst h0; exact run_look_hit Try.underlying52 Try.underlying3 hb 1 0 _ rfl
  by_cases h1 : op = 2
  · subst h1; exact run_look_hit Try.underlying52 Try.underlying3 hb 2 1 _ rfl
  by_cases h2 : op = 8
  · subst h2; exact run_look_hit Try.underlying52 Try.underlying3 hb 8 2 _ rfl
  by_cases h3 : op = 9
  · subst h3; exact run_look_hit Try.underlying52 Try.underlying3 hb 9 3 _ rfl
  by_cases h4 : op = 10
  · subst h4; exact run_look_hit Try.underlying52 Try.underlying3 hb 10 4 _ rfl
  have e1 : arV op = .nilFunc := by unfold arV; simp [h0, h1, h2, h3, h4]
  have e2 : arB op = false := by unfold arB; simp [h0, h1, h2, h3, h4]
  rw [e1, e2]
  refine run_look_miss Try.underlying52 Try.underlying3 (by kernel_rfl) hb op ?_
  simp only [arE, Instr.findNow, Instr.sameNow, beq_false_of_ne h0, beq_false_of_ne h1, beq_false_of_ne h2, beq_false_of_ne h3, beq_false_of_ne h4, if_true]

set_option maxRecDepth 100000 in
theorem ar_any (op : Int) (w : World) : Calls Try.prog 24 #[.int .i64 op] w fun e w' => e = .returned (.tuple #[arV op, .bool (arB op)]) ∧ Later w w' := by
  have hmm := @run_makeMap Try.prog
  obtain ⟨v, hv⟩ : ∃ v, v = arV op := ⟨_, rfl⟩
  obtain ⟨q, hq⟩ : ∃ q, q = arB op := ⟨_, rfl⟩
  have HL := Lib.hid fun (b c : Nat) (w' : World) (hb : w'.heap[b]? = some (.map arE c)) => ar_look op hb
  rw [← hv, ← hq] at HL ⊢
  clear hv hq
  have hb0 := heap_alloc_new w (.map #[] 0)
  have hl0 : Later w (w.alloc (.map #[] 0)) := (Below.refl _ _).alloc (Nat.le_refl _) _
  go_enter Try.func24, Try.ntmps24
  go_wp2_with (refine wpList_insert rfl _ _ _ rfl Try.underlying52 Try.underlying3 rfl (by assumption) (by assumption) _ _ rfl rfl rfl ?_; intro w' hb' hl'; try have hlk := HL.out _ _ _ hb')
  go_ret2
  exact ⟨rfl, hl'⟩
/-- What the map of logic has for a number. -/
def loV (op : Int) : Value := if op = 3 then .func (.func 40) #[] #[] else if op = 4 then .func (.func 41) #[] #[] else if op = 5 then .func (.func 42) #[] #[] else if op = 6 then .func (.func 43) #[] #[] else if op = 7 then .func (.func 44) #[] #[] else if op = 11 then .func (.func 45) #[] #[] else if op = 12 then .func (.func 48) #[] #[] else .nilFunc
def loB (op : Int) : Bool := op == 3 || op == 4 || op == 5 || op == 6 || op == 7 || op == 11 || op == 12
def loE : Array MapEntry := #[⟨.int .i64 3, .func (.func 40) #[] #[], 0⟩, ⟨.int .i64 4, .func (.func 41) #[] #[], 1⟩, ⟨.int .i64 5, .func (.func 42) #[] #[], 2⟩, ⟨.int .i64 6, .func (.func 43) #[] #[], 3⟩, ⟨.int .i64 7, .func (.func 44) #[] #[], 4⟩, ⟨.int .i64 11, .func (.func 45) #[] #[], 5⟩, ⟨.int .i64 12, .func (.func 48) #[] #[], 6⟩]
theorem lo_look (op : Int) {w : World} {b c : Nat} (hb : w.heap[b]? = some (.map loE c)) : (Instr.lookup 52 (.map (some b)) (.int .i64 op) true).run Try.prog w = .ok (.tuple #[loV op, .bool (loB op)]) w := by
  by_cases h0 : op = 3
  · subst h0; exact run_look_hit Try.underlying52 Try.underlying3 hb 3 0 _ rfl
  by_cases h1 : op = 4
  · subst h1; exact run_look_hit Try.underlying52 Try.underlying3 hb 4 1 _ rfl
  by_cases h2 : op = 5
  · subst h2; exact run_look_hit Try.underlying52 Try.underlying3 hb 5 2 _ rfl
  by_cases h3 : op = 6
  · subst h3; exact run_look_hit Try.underlying52 Try.underlying3 hb 6 3 _ rfl
  by_cases h4 : op = 7
  · subst h4; exact run_look_hit Try.underlying52 Try.underlying3 hb 7 4 _ rfl
  by_cases h5 : op = 11
  · subst h5; exact run_look_hit Try.underlying52 Try.underlying3 hb 11 5 _ rfl
  by_cases h6 : op = 12
  · subst h6; exact run_look_hit Try.underlying52 Try.underlying3 hb 12 6 _ rfl
  have e1 : loV op = .nilFunc := by unfold loV; simp [h0, h1, h2, h3, h4, h5, h6]
  have e2 : loB op = false := by unfold loB; simp [h0, h1, h2, h3, h4, h5, h6]
  rw [e1, e2]
  refine run_look_miss Try.underlying52 Try.underlying3 (by kernel_rfl) hb op ?_
  simp only [loE, Instr.findNow, Instr.sameNow, beq_false_of_ne h0, beq_false_of_ne h1, beq_false_of_ne h2, beq_false_of_ne h3, beq_false_of_ne h4, beq_false_of_ne h5, beq_false_of_ne h6, if_true]

set_option maxRecDepth 100000 in
theorem lo_any (op : Int) (w : World) : Calls Try.prog 25 #[.int .i64 op] w fun e w' => e = .returned (.tuple #[loV op, .bool (loB op)]) ∧ Later w w' := by
  have hmm := @run_makeMap Try.prog
  obtain ⟨v, hv⟩ : ∃ v, v = loV op := ⟨_, rfl⟩
  obtain ⟨q, hq⟩ : ∃ q, q = loB op := ⟨_, rfl⟩
  have HL := Lib.hid fun (b c : Nat) (w' : World) (hb : w'.heap[b]? = some (.map loE c)) => lo_look op hb
  rw [← hv, ← hq] at HL ⊢
  clear hv hq
  have hb0 := heap_alloc_new w (.map #[] 0)
  have hl0 : Later w (w.alloc (.map #[] 0)) := (Below.refl _ _).alloc (Nat.le_refl _) _
  go_enter Try.func25, Try.ntmps25
  go_wp2_with (refine wpList_insert rfl _ _ _ rfl Try.underlying52 Try.underlying3 rfl (by assumption) (by assumption) _ _ rfl rfl rfl ?_; intro w' hb' hl'; try have hlk := HL.out _ _ _ hb')
  go_ret2
  exact ⟨rfl, hl'⟩
/-- What the map of branch has for a number. -/
def brV (op : Int) : Value := if op = 28 then .func (.func 50) #[] #[] else if op = 29 then .func (.func 51) #[] #[] else if op = 30 then .func (.func 52) #[] #[] else if op = 31 then .func (.func 53) #[] #[] else .nilFunc
def brB (op : Int) : Bool := op == 28 || op == 29 || op == 30 || op == 31
def brE : Array MapEntry := #[⟨.int .i64 28, .func (.func 50) #[] #[], 0⟩, ⟨.int .i64 29, .func (.func 51) #[] #[], 1⟩, ⟨.int .i64 30, .func (.func 52) #[] #[], 2⟩, ⟨.int .i64 31, .func (.func 53) #[] #[], 3⟩]
theorem br_look (op : Int) {w : World} {b c : Nat} (hb : w.heap[b]? = some (.map brE c)) : (Instr.lookup 54 (.map (some b)) (.int .i64 op) true).run Try.prog w = .ok (.tuple #[brV op, .bool (brB op)]) w := by
  by_cases h0 : op = 28
  · subst h0; exact run_look_hit Try.underlying54 Try.underlying3 hb 28 0 _ rfl
  by_cases h1 : op = 29
  · subst h1; exact run_look_hit Try.underlying54 Try.underlying3 hb 29 1 _ rfl
  by_cases h2 : op = 30
  · subst h2; exact run_look_hit Try.underlying54 Try.underlying3 hb 30 2 _ rfl
  by_cases h3 : op = 31
  · subst h3; exact run_look_hit Try.underlying54 Try.underlying3 hb 31 3 _ rfl
  have e1 : brV op = .nilFunc := by unfold brV; simp [h0, h1, h2, h3]
  have e2 : brB op = false := by unfold brB; simp [h0, h1, h2, h3]
  rw [e1, e2]
  refine run_look_miss Try.underlying54 Try.underlying3 (by kernel_rfl) hb op ?_
  simp only [brE, Instr.findNow, Instr.sameNow, beq_false_of_ne h0, beq_false_of_ne h1, beq_false_of_ne h2, beq_false_of_ne h3, if_true]

set_option maxRecDepth 100000 in
theorem br_any (op : Int) (w : World) : Calls Try.prog 31 #[.int .i64 op] w fun e w' => e = .returned (.tuple #[brV op, .bool (brB op)]) ∧ Later w w' := by
  have hmm := @run_makeMap Try.prog
  obtain ⟨v, hv⟩ : ∃ v, v = brV op := ⟨_, rfl⟩
  obtain ⟨q, hq⟩ : ∃ q, q = brB op := ⟨_, rfl⟩
  have HL := Lib.hid fun (b c : Nat) (w' : World) (hb : w'.heap[b]? = some (.map brE c)) => br_look op hb
  rw [← hv, ← hq] at HL ⊢
  clear hv hq
  have hb0 := heap_alloc_new w (.map #[] 0)
  have hl0 : Later w (w.alloc (.map #[] 0)) := (Below.refl _ _).alloc (Nat.le_refl _) _
  go_enter Try.func31, Try.ntmps31
  go_wp2_with (refine wpList_insert rfl _ _ _ rfl Try.underlying54 Try.underlying3 rfl (by assumption) (by assumption) _ _ rfl rfl rfl ?_; intro w' hb' hl'; try have hlk := HL.out _ _ _ hb')
  go_ret2
  exact ⟨rfl, hl'⟩
end Go.Proofs.Ytonfdgbohmcpjaa
