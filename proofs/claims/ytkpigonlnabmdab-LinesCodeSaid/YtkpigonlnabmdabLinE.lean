/-
  A PROCESSOR THAT ASKS: its methods, and the maps of them.
-/
import Derived.Test.YtkpigonlnabmdabLinD
import Derived.Maps.Own
import Derived.WalkLawsBesides
import Derived.Deep.Draws
import Derived.ProofKit
import Derived.OpenShut
import Derived.Deep.Slices
namespace Go.Proofs.Ytkpigonlnabmdab
open Go.RowKit Go.ChangeShapes Go.WideShapes Go.ChangeAt

section
variable {P : Program} {w : World} {b : Nat} {es : Array MapEntry} {c : Nat} {t kt e : TypeId}
theorem run_ck (hk : P.underlying kt = some (.int .i64)) (w : World) (x : Bool) (k : Int) : (Instr.checkKey x 10000 kt (.int .i64 k)).run P w = .ok () w := by
  unfold Instr.checkKey
  simp only [Sem.run_bind, run_underlying hk, Result.andThen]
  rfl
theorem run_insert (ht : P.underlying t = some (.map kt e)) (hk : P.underlying kt = some (.int .i64)) (hb : w.heap[b]? = some (.map es c)) (k : Int) (val : Value)
    (hfn : Instr.findNow (.int .i64) (.int .i64 k) es.toList 0 = some none) :
    (Instr.mapUpdate t (.map (some b)) (.int .i64 k) val).run P w = .ok () (Go.ChangeMaps.setBlock w b (.map (es.push ⟨.int .i64 k, val, c⟩) (c + 1))) := by
  have hc : (Instr.checkKey false 10000 kt (.int .i64 k)).run P w = .ok () w := run_ck hk w false k
  simp [Instr.mapUpdate, run_underlying ht, MapKept.run_getObj_map hb, hc, MapKept.run_findKey hk hfn, MapKept.run_setObj_map _ hb, Result.andThen, Go.ChangeMaps.setBlock]
theorem run_look_hit (ht : P.underlying t = some (.map kt e)) (hk : P.underlying kt = some (.int .i64)) (hb : w.heap[b]? = some (.map es c)) (k : Int) (i : Nat) (v : Value)
    (hfn : Instr.findNow (.int .i64) (.int .i64 k) es.toList 0 = some (some (i, v))) : (Instr.lookup t (.map (some b)) (.int .i64 k) true).run P w = .ok (.tuple #[v, .bool true]) w := by
  have hc := fun x => run_ck (P := P) hk w x k
  simp [Instr.lookup, run_underlying ht, MapKept.run_getObj_map hb, hc, MapKept.run_findKey hk hfn, Result.andThen]
theorem run_look_miss (ht : P.underlying t = some (.map kt e)) (hk : P.underlying kt = some (.int .i64)) {z : Value} (hz : (zeroValue e).run P w = .ok z w) (hb : w.heap[b]? = some (.map es c)) (k : Int)
    (hfn : Instr.findNow (.int .i64) (.int .i64 k) es.toList 0 = some none) : (Instr.lookup t (.map (some b)) (.int .i64 k) true).run P w = .ok (.tuple #[z, .bool false]) w := by
  have hc := fun x => run_ck (P := P) hk w x k
  simp [Instr.lookup, run_underlying ht, MapKept.run_getObj_map hb, hc, MapKept.run_findKey hk hfn, hz, Result.andThen]
/-- A map literal's entry, at the operation. -/
theorem wpList_insert {w0 : World} {ops : Array Oper} {rest : List Oper} {o : Oper} {a : Act} {Q : Exit → Act → World → Prop}
    (hg : o.guard = none) (m x v : Operand) (hop : o.op = Op.insert t m x v) (ht : P.underlying t = some (.map kt e)) (hk : P.underlying kt = some (.int .i64))
    (hm : a.eval m = .map (some b)) (hb : w.heap[b]? = some (.map es c)) (hl : Below b w0 w) (k : Int) (val : Value) (hx : a.eval x = .int .i64 k) (hv : a.eval v = val)
    (hfn : Instr.findNow (.int .i64) (.int .i64 k) es.toList 0 = some none)
    (hK : ∀ w', w'.heap[b]? = some (.map (es.push ⟨.int .i64 k, val, c⟩) (c + 1)) → Below b w0 w' → wpList P ops Q rest (a.put o.dst undef) w') :
    wpList P ops Q (o :: rest) a w := by
  refine wpList_plain hg fun K' hK' => ?_
  have hrun := run_insert ht hk hb k val hfn
  unfold Oper.wp
  simp only [execOp, hop, hm, hx, hv, Sem.run_bind, hrun, Result.andThen, Sem.run_pure]
  refine hK' _ _ (hK _ (Go.ChangeMaps.heap_setBlock_same hb _) ?_)
  have hlt : b < w.heap.size := by
    rcases Nat.lt_or_ge b w.heap.size with h1 | h1
    · exact h1
    · rw [Array.getElem?_eq_none h1] at hb; cases hb
  have hG : w.grownBy (Go.ChangeMaps.setBlock w b (.map (es.push ⟨.int .i64 k, val, c⟩) (c + 1))) (some b) := ⟨rfl, rfl, rfl, by simp [Go.ChangeMaps.setBlock], fun i _ hi => Go.ChangeMaps.heap_setBlock_other hb _ (fun e => hi (by rw [e]))⟩
  exact hl.grown hG (Nat.le_of_lt hlt) (fun k hk => by cases hk; exact Nat.le_refl _)
end
/-- One that asks: its control and its number. -/
def Acs (x : Ctl) (k : Nat) : List Value := x.cells ++ [.int .i64 (k : Int)]
theorem as_sz (x : Ctl) (k : Nat) : (Try.prog.info? 60).map (·.size) = some (Acs x k).length := by
  show _ = some 15
  kernel_rfl
theorem as_one (x : Ctl) (k : Nat) : ∀ v ∈ Acs x k, v.oneCell' = true := by
  intro v hv
  rcases List.mem_append.1 hv with h | h
  · exact ctl_one x v h
  · obtain rfl := List.mem_singleton.1 h
    rfl
theorem as_k (x : Ctl) (k : Nat) : (Acs x k)[14]? = some (.int .i64 (k : Int)) := rfl
theorem as_at (x : Ctl) (k : Nat) {j : Nat} {v : Value} (h : x.cells[j]? = some v) : (Acs x k)[j]? = some v := by
  have hj : j < x.cells.length := by
    rcases Nat.lt_or_ge j x.cells.length with h1 | h1
    · exact h1
    · rw [List.getElem?_eq_none h1] at h; cases h
  unfold Acs
  rw [List.getElem?_append_left hj]; exact h
theorem as_set (x : Ctl) (k : Nat) {j : Nat} {v : Value} (h : j < 14) : (Acs x k).set j v = x.cells.set j v ++ [.int .i64 (k : Int)] := by
  unfold Acs
  rw [List.set_append_left _ _ (show j < x.cells.length from h)]
theorem as_sr (x : Ctl) (q : Nat) {k : Nat} (h : k < 4) (v : Int) : (Acs x q).set (1 + k) (.int .u32 v) = Acs { x with r := upd x.r k v } q := by
  rw [as_set _ _ (by omega), set_r x h]; rfl
theorem as_sm (x : Ctl) (q : Nat) {k : Nat} (h : k < 4) (v : Int) : (Acs x q).set (5 + k) (.int .u32 v) = Acs { x with m := upd x.m k v } q := by
  rw [as_set _ _ (by omega), set_m x h]; rfl
theorem as_st (x : Ctl) (q : Nat) {k : Nat} (h : k < 5) (v : Int) : (Acs x q).set (9 + k) (.int .i64 v) = Acs { x with t := upd x.t k v } q := by
  rw [as_set _ _ (by omega), set_t x h]; rfl
theorem as_drop (x : Ctl) (k : Nat) : ((Acs x k).drop 0).take 14 = x.cells := rfl
theorem as_put (x y : Ctl) (k : Nat) : (Acs x k).take 0 ++ y.cells ++ (Acs x k).drop (0 + y.cells.length) = Acs y k := rfl
theorem built_as (x : Ctl) (k : Nat) : Try.prog.built 60 [(0, .agg x.cells.toArray), (1, .int .i64 (k : Int))] = some (Acs x k).toArray := by kernel_rfl
theorem run_as (x : Ctl) (k : Nat) (w : World) : (Instr.build 60 #[(0, .agg x.cells.toArray), (1, .int .i64 (k : Int))]).run Try.prog w = .ok (.agg (Acs x k).toArray) w := run_build w _ _ _ (built_as x k)
/-- The pointer to one that asks. -/
def pA (B : Nat) : Value := .pointer (some ⟨B, 0, none⟩)
theorem wraps_i64 (n : Int) (h₀ : 0 ≤ n) (h₁ : n < 2 ^ 63) : IntKind.i64.wrap n = n := by rw [IntKind.wrap_i64]; omega
section
variable {w : World} {B : Nat} {x : Ctl} {k : Nat} (hb : Blk w B 60 (Acs x k)) (hx : x.Ok) (hw : x.wf) (hk : (k : Int) < x.n)
include hb hx hk
set_option maxRecDepth 100000 in
theorem mask_any : Calls Try.prog 40 #[pA B] w fun e w' => e = .returned (.int .u32 (x.m k)) ∧ Later w w' := by
  have hn4 := hx.n4
  have h4 : k < 4 := by omega
  have hk4 : (k : Int) < 4 := by omega
  have hk0 : (0 : Int) ≤ k := by omega
  have e1 := hb.cell (as_k x k)
  have e2 := hb.cell (as_at x k (ctl_m x h4))
  have lw := later0 w
  clear hb hx
  unfold pA
  go_enter Try.func40, Try.ntmps40
  go_wp2
  go_region
  go_wp2
  go_ret
  exact ⟨rfl, lw.drew⟩
set_option maxRecDepth 100000 in
theorem setMask_any (v : Int) (hv : Tm.isE v) : Calls Try.prog 42 #[pA B, .int .u32 v] w fun e w' => e = .returned (.tuple #[]) ∧ Blk w' B 60 (Acs { x with m := upd x.m k (v % 32) } k) ∧ Below B w w' := by
  have hn4 := hx.n4
  have h4 : k < 4 := by omega
  have hk4 : (k : Int) < 4 := by omega
  have hk0 : (0 : Int) ≤ k := by omega
  have ha := and31 hv
  have lw : Below B w w := Below.refl _ _
  clear hx hv
  unfold pA
  go_enter Try.func42, Try.ntmps42
  go_wp2
  replace hb := hb.drew
  replace lw := lw.drew
  refine wp_region_held_drew (S := fun w' => w'.cell? ⟨B, 14, none⟩ = some (.int .i64 (k : Int))) (by kernel_rfl) (hb.drew.cell (as_k x k)) (fun hHeld => ?_)
  refine wpAnyH_take (i := 0) (oi := ⟨some 4, .move (.tmp 0), _, _, _, none⟩) (v := .pointer (some ⟨B, 0, none⟩)) rfl (by kernel_rfl) (by kernel_rfl) (by kernel_rfl) (fun _ _ _ h => h) (Or.inl ⟨by rfl, fun _ _ => rfl⟩) hHeld ?_
  simp only [Act.put, List.setIfInBounds_toArray, List.set_cons_zero, List.set_cons_succ]
  refine wpAnyH_take (i := 1) (oi := ⟨some 5, .move (.tmp 0), _, _, _, none⟩) (v := .pointer (some ⟨B, 0, none⟩)) rfl (by kernel_rfl) (by kernel_rfl) (by kernel_rfl) (fun _ _ _ h => h) (Or.inl ⟨by rfl, fun _ _ => rfl⟩) hHeld ?_
  simp only [Act.put, List.setIfInBounds_toArray, List.set_cons_zero, List.set_cons_succ]
  refine wpAnyH_take (i := 2) (oi := ⟨some 6, .nilCheck (.tmp 5), _, _, _, none⟩) (v := .pointer (some ⟨B, 0, none⟩)) rfl (by kernel_rfl) (by kernel_rfl) (by kernel_rfl) (fun _ _ _ h => h) (Or.inl ⟨by rfl, fun w _ => by go_simp⟩) hHeld ?_
  simp only [Act.put, List.setIfInBounds_toArray, List.set_cons_zero, List.set_cons_succ]
  refine wpAnyH_take (i := 3) (oi := ⟨some 7, .fieldAddr 60 (.tmp 6) 1, _, _, _, none⟩) (v := .pointer (some ⟨B, 14, none⟩)) rfl (by kernel_rfl) (by kernel_rfl) (by kernel_rfl) (fun _ _ _ h => h) (Or.inl ⟨by rfl, fun w _ => by go_simp⟩) hHeld ?_
  simp only [Act.put, List.setIfInBounds_toArray, List.set_cons_zero, List.set_cons_succ]
  refine wpAnyH_take (i := 4) (oi := ⟨some 8, .load 3 (.tmp 7), _, _, _, none⟩) (v := .int .i64 (k : Int)) rfl (by kernel_rfl) (by kernel_rfl) (by kernel_rfl) (fun _ _ _ h => h) (Or.inl ⟨by rfl, fun w hSw => by have e1 := hSw; clear hSw; go_simp⟩) hHeld ?_
  simp only [Act.put, List.setIfInBounds_toArray, List.set_cons_zero, List.set_cons_succ]
  refine wpAnyH_take (i := 5) (oi := ⟨some 9, .move (.tmp 1), _, _, _, none⟩) (v := .int .u32 v) rfl (by kernel_rfl) (by kernel_rfl) (by kernel_rfl) (fun _ _ _ h => h) (Or.inl ⟨by rfl, fun _ _ => rfl⟩) hHeld ?_
  simp only [Act.put, List.setIfInBounds_toArray, List.set_cons_zero, List.set_cons_succ]
  refine wpAnyH_take (i := 6) (oi := ⟨some 10, .binOp .and 22 (.tmp 9) (.const (.int .u32 31)) 22, _, _, _, none⟩) (v := .int .u32 (v % 32)) rfl (by kernel_rfl) (by kernel_rfl) (by kernel_rfl) (fun _ _ _ h => h) (Or.inl ⟨by rfl, fun w _ => by go_simp⟩) hHeld ?_
  simp only [Act.put, List.setIfInBounds_toArray, List.set_cons_zero, List.set_cons_succ]
  refine wpAnyH_take (i := 7) (oi := ⟨some 11, .nilCheck (.tmp 4), _, _, _, none⟩) (v := .pointer (some ⟨B, 0, none⟩)) rfl (by kernel_rfl) (by kernel_rfl) (by kernel_rfl) (fun _ _ _ h => h) (Or.inl ⟨by rfl, fun w _ => by go_simp⟩) hHeld ?_
  simp only [Act.put, List.setIfInBounds_toArray, List.set_cons_zero, List.set_cons_succ]
  refine wpAnyH_take (i := 8) (oi := ⟨some 12, .fieldAddr 60 (.tmp 11) 0, _, _, _, none⟩) (v := .pointer (some ⟨B, 0, none⟩)) rfl (by kernel_rfl) (by kernel_rfl) (by kernel_rfl) (fun _ _ _ h => h) (Or.inl ⟨by rfl, fun w _ => by go_simp⟩) hHeld ?_
  simp only [Act.put, List.setIfInBounds_toArray, List.set_cons_zero, List.set_cons_succ]
  refine wpAnyH_take (i := 9) (oi := ⟨some 13, .fieldAddr 26 (.tmp 12) 2, _, _, _, none⟩) (v := .pointer (some ⟨B, 5, none⟩)) rfl (by kernel_rfl) (by kernel_rfl) (by kernel_rfl) (fun _ _ _ h => h) (Or.inl ⟨by rfl, fun w _ => by go_simp⟩) hHeld ?_
  simp only [Act.put, List.setIfInBounds_toArray, List.set_cons_zero, List.set_cons_succ]
  refine wpAnyH_take (i := 10) (oi := ⟨some 14, .indexAddr 23 (.tmp 13) (.tmp 8), _, _, _, none⟩) (v := .pointer (some ⟨B, 5 + k, none⟩)) rfl (by kernel_rfl) (by kernel_rfl) (by kernel_rfl) (fun _ _ _ h => h) (Or.inl ⟨by rfl, fun w _ => by go_simp⟩) hHeld ?_
  simp only [Act.put, List.setIfInBounds_toArray, List.set_cons_zero, List.set_cons_succ]
  refine wpAnyH_ready (rs := [11]) (by kernel_rfl) (by simp) (AllReadyH.cons (o := ⟨none, .store 22 (.tmp 14) (.tmp 10), _, _, _, none⟩) rfl (fun K' hK => ?_) (AllReadyH.nil))
  have e1 := hb.cell (as_at x k (ctl_m x h4))
  have f1 := hb.frz (5 + k)
  go_simp
  clear e1 f1
  replace hb : Blk _ B 60 (Acs { x with m := upd x.m k (v % 32) } k) := (by rw [← as_sm x k h4]; exact hb.set (5 + k) (.int .u32 (v % 32)))
  replace lw := lw.setCell (p := ⟨B, 5 + k, none⟩) (Nat.le_refl _) (.int .u32 (v % 32))
  refine hK.out _ _ (hb.cell (as_k x k)) (fun hHeld => ?_)
  clear hK K'
  try simp only [Act.put]
  refine wpAnyH_done (by kernel_rfl) ?_ _
  clear hHeld
  go_end0
  exact ⟨rfl, hb, lw⟩
include hw
set_option maxRecDepth 100000 in
theorem apending_any : Calls Try.prog 41 #[pA B] w fun e w' => e = .returned (.int .u32 (x.pend k)) ∧ Later w w' := by
  have KP := Lib.hid fun w' => pending_any x k w' hx hw hk
  have lw := later0 w
  clear hx hw
  unfold pA
  go_enter Try.func41, Try.ntmps41
  go_wp2
  replace hb := hb.drew
  replace lw := lw.drew
  refine wp_region_held_drew (S := fun w' => w'.rangeAt B 0 x.cells ∧ w'.cell? ⟨B, 14, none⟩ = some (.int .i64 (k : Int))) (by kernel_rfl) ⟨(show World.rangeAt _ B 0 x.cells from hb.drew.range 0 14), hb.drew.cell (as_k x k)⟩ (fun hHeld => ?_)
  refine wpAnyH_take (i := 0) (oi := ⟨some 3, .move (.tmp 0), _, _, _, none⟩) (v := .pointer (some ⟨B, 0, none⟩)) rfl (by kernel_rfl) (by kernel_rfl) (by kernel_rfl) (fun _ _ _ h => h) (Or.inl ⟨by rfl, fun _ _ => rfl⟩) hHeld ?_
  simp only [Act.put, List.setIfInBounds_toArray, List.set_cons_zero, List.set_cons_succ]
  refine wpAnyH_take (i := 1) (oi := ⟨some 4, .nilCheck (.tmp 3), _, _, _, none⟩) (v := .pointer (some ⟨B, 0, none⟩)) rfl (by kernel_rfl) (by kernel_rfl) (by kernel_rfl) (fun _ _ _ h => h) (Or.inl ⟨by rfl, fun w _ => by go_simp⟩) hHeld ?_
  simp only [Act.put, List.setIfInBounds_toArray, List.set_cons_zero, List.set_cons_succ]
  refine wpAnyH_take (i := 2) (oi := ⟨some 5, .fieldAddr 60 (.tmp 4) 0, _, _, _, none⟩) (v := .pointer (some ⟨B, 0, none⟩)) rfl (by kernel_rfl) (by kernel_rfl) (by kernel_rfl) (fun _ _ _ h => h) (Or.inl ⟨by rfl, fun w _ => by go_simp⟩) hHeld ?_
  simp only [Act.put, List.setIfInBounds_toArray, List.set_cons_zero, List.set_cons_succ]
  refine wpAnyH_take (i := 3) (oi := ⟨some 6, .load 26 (.tmp 5), _, _, _, none⟩) (v := .agg x.cells.toArray) rfl (by kernel_rfl) (by kernel_rfl) (by kernel_rfl) (fun _ _ _ h => h) (yieldsIf_load_mid (by rfl) _ _ rfl _ _ rfl x.cells _ (fun w h => h.1) Try.underlying26 rfl (ctl_sz _)) hHeld ?_
  simp only [Act.put, List.setIfInBounds_toArray, List.set_cons_zero, List.set_cons_succ]
  refine wpAnyH_take (i := 4) (oi := ⟨some 7, .move (.tmp 0), _, _, _, none⟩) (v := .pointer (some ⟨B, 0, none⟩)) rfl (by kernel_rfl) (by kernel_rfl) (by kernel_rfl) (fun _ _ _ h => h) (Or.inl ⟨by rfl, fun _ _ => rfl⟩) hHeld ?_
  simp only [Act.put, List.setIfInBounds_toArray, List.set_cons_zero, List.set_cons_succ]
  refine wpAnyH_take (i := 5) (oi := ⟨some 8, .nilCheck (.tmp 7), _, _, _, none⟩) (v := .pointer (some ⟨B, 0, none⟩)) rfl (by kernel_rfl) (by kernel_rfl) (by kernel_rfl) (fun _ _ _ h => h) (Or.inl ⟨by rfl, fun w _ => by go_simp⟩) hHeld ?_
  simp only [Act.put, List.setIfInBounds_toArray, List.set_cons_zero, List.set_cons_succ]
  refine wpAnyH_take (i := 6) (oi := ⟨some 9, .fieldAddr 60 (.tmp 8) 1, _, _, _, none⟩) (v := .pointer (some ⟨B, 14, none⟩)) rfl (by kernel_rfl) (by kernel_rfl) (by kernel_rfl) (fun _ _ _ h => h) (Or.inl ⟨by rfl, fun w _ => by go_simp⟩) hHeld ?_
  simp only [Act.put, List.setIfInBounds_toArray, List.set_cons_zero, List.set_cons_succ]
  refine wpAnyH_take (i := 7) (oi := ⟨some 10, .load 3 (.tmp 9), _, _, _, none⟩) (v := .int .i64 (k : Int)) rfl (by kernel_rfl) (by kernel_rfl) (by kernel_rfl) (fun _ _ _ h => h) (Or.inl ⟨by rfl, fun w hSw => by have e1 := hSw.2; clear hSw; go_simp⟩) hHeld ?_
  simp only [Act.put, List.setIfInBounds_toArray, List.set_cons_zero, List.set_cons_succ]
  refine wpAnyH_ready (rs := [8]) (by kernel_rfl) (by simp) (AllReadyH.cons (o := ⟨some 11, .call { callee := .value (.func 16), args := #[.tmp 6, .tmp 10], argTypes := #[26, 3] }, _, _, _, none⟩) rfl (fun K' hK => ?_) (AllReadyH.nil))
  go_simp
  (with_reducible refine (KP.out _).mono ?_)
  rintro e w1 ⟨rfl, l1⟩
  replace hb := hb.keep l1
  replace lw := Later.trans_ lw l1
  refine hK.out _ _ ⟨(show World.rangeAt _ B 0 x.cells from hb.range 0 14), hb.cell (as_k x k)⟩ (fun hHeld => ?_)
  clear hK K'
  try simp only [Act.put, List.setIfInBounds_toArray, List.set_cons_zero, List.set_cons_succ]
  refine wpAnyH_take (i := 9) (oi := ⟨some 2, .assign (.tmp 11), _, _, _, none⟩) (v := .int .u32 (x.pend k)) rfl (by kernel_rfl) (by kernel_rfl) (by kernel_rfl) (fun _ _ _ h => h) (Or.inl ⟨by rfl, fun _ _ => rfl⟩) hHeld ?_
  simp only [Act.put, List.setIfInBounds_toArray, List.set_cons_zero, List.set_cons_succ]
  refine wpAnyH_done (by kernel_rfl) ?_ _
  clear hHeld
  go_wp2
  go_ret
  exact ⟨rfl, lw⟩
set_option maxRecDepth 100000 in
set_option maxHeartbeats 1000000 in
theorem ack_any (v : Int) (hv : Tm.isE v) : Calls Try.prog 43 #[pA B, .int .u32 v] w fun e w' => e = .returned (.tuple #[]) ∧ Blk w' B 60 (Acs (x.out k 2 v) k) ∧ Below B w w' := by
  have hn4 := hx.n4
  have h4 : k < 4 := by omega
  have hk4 : (k : Int) < 4 := by omega
  have hk0 : (0 : Int) ≤ k := by omega
  have lw : Below B w w := Below.refl _ _
  obtain ⟨j, rfl⟩ := Int.eq_ofNat_of_zero_le hv.1
  have hw1 := wraps_i64 (j : Int) hv.1 (by have := hv.2; omega)
  have KI := Lib.hid fun w' => is_any (j : Int) w'
  unfold pA
  by_cases h5 : (j : Int) < 5
  · have hj : j < 5 := by omega
    have hres : x.out k 2 (j : Int) = { x with r := upd x.r k (anB (x.r k) j) } := by unfold Ctl.out; simp [h5]
    rw [hres]
    have ha := an_is (hx.r5 hw h4) hj
    rw [decide_eq_true ⟨by omega, h5⟩] at KI
    have KB := Lib.hid fun w' => bit_any j w' hj
    have e0 := hb.cell (as_k x k)
    clear hres hx hw hv
    go_enter Try.func43, Try.ntmps43
    go_upto_region 2 with (go_at_call 31; (with_reducible refine (KI.out _).mono ?_); rintro e w1 ⟨rfl, rfl⟩)
    replace hb := hb.drew
    replace lw := lw.drew
    have e1 := hb.cell (as_at x k (ctl_r x h4))
    have f1 := hb.frz (1 + k)
    refine wp_region_held_drew (S := fun w' => w'.cell? ⟨B, 14, none⟩ = some (.int .i64 (k : Int))) (by kernel_rfl) (hb.cell (as_k x k)) (fun hHeld => ?_)
    refine wpAnyH_take (i := 0) (oi := ⟨some 9, .move (.tmp 0), _, _, _, none⟩) (v := .pointer (some ⟨B, 0, none⟩)) rfl (by kernel_rfl) (by kernel_rfl) (by kernel_rfl) (fun _ _ _ h => h) (Or.inl ⟨by rfl, fun _ _ => rfl⟩) hHeld ?_
    simp only [Act.put, List.setIfInBounds_toArray, List.set_cons_zero, List.set_cons_succ]
    refine wpAnyH_take (i := 1) (oi := ⟨some 10, .move (.tmp 0), _, _, _, none⟩) (v := .pointer (some ⟨B, 0, none⟩)) rfl (by kernel_rfl) (by kernel_rfl) (by kernel_rfl) (fun _ _ _ h => h) (Or.inl ⟨by rfl, fun _ _ => rfl⟩) hHeld ?_
    simp only [Act.put, List.setIfInBounds_toArray, List.set_cons_zero, List.set_cons_succ]
    refine wpAnyH_take (i := 2) (oi := ⟨some 11, .nilCheck (.tmp 10), _, _, _, none⟩) (v := .pointer (some ⟨B, 0, none⟩)) rfl (by kernel_rfl) (by kernel_rfl) (by kernel_rfl) (fun _ _ _ h => h) (Or.inl ⟨by rfl, fun w _ => by go_simp⟩) hHeld ?_
    simp only [Act.put, List.setIfInBounds_toArray, List.set_cons_zero, List.set_cons_succ]
    refine wpAnyH_take (i := 3) (oi := ⟨some 12, .fieldAddr 60 (.tmp 11) 1, _, _, _, none⟩) (v := .pointer (some ⟨B, 14, none⟩)) rfl (by kernel_rfl) (by kernel_rfl) (by kernel_rfl) (fun _ _ _ h => h) (Or.inl ⟨by rfl, fun w _ => by go_simp⟩) hHeld ?_
    simp only [Act.put, List.setIfInBounds_toArray, List.set_cons_zero, List.set_cons_succ]
    refine wpAnyH_take (i := 4) (oi := ⟨some 13, .load 3 (.tmp 12), _, _, _, none⟩) (v := .int .i64 (k : Int)) rfl (by kernel_rfl) (by kernel_rfl) (by kernel_rfl) (fun _ _ _ h => h) (Or.inl ⟨by rfl, fun w hSw => by have e1 := hSw; clear hSw; go_simp⟩) hHeld ?_
    simp only [Act.put, List.setIfInBounds_toArray, List.set_cons_zero, List.set_cons_succ]
    refine wpAnyH_take (i := 5) (oi := ⟨some 14, .nilCheck (.tmp 9), _, _, _, none⟩) (v := .pointer (some ⟨B, 0, none⟩)) rfl (by kernel_rfl) (by kernel_rfl) (by kernel_rfl) (fun _ _ _ h => h) (Or.inl ⟨by rfl, fun w _ => by go_simp⟩) hHeld ?_
    simp only [Act.put, List.setIfInBounds_toArray, List.set_cons_zero, List.set_cons_succ]
    refine wpAnyH_take (i := 6) (oi := ⟨some 15, .fieldAddr 60 (.tmp 14) 0, _, _, _, none⟩) (v := .pointer (some ⟨B, 0, none⟩)) rfl (by kernel_rfl) (by kernel_rfl) (by kernel_rfl) (fun _ _ _ h => h) (Or.inl ⟨by rfl, fun w _ => by go_simp⟩) hHeld ?_
    simp only [Act.put, List.setIfInBounds_toArray, List.set_cons_zero, List.set_cons_succ]
    refine wpAnyH_take (i := 7) (oi := ⟨some 16, .fieldAddr 26 (.tmp 15) 1, _, _, _, none⟩) (v := .pointer (some ⟨B, 1, none⟩)) rfl (by kernel_rfl) (by kernel_rfl) (by kernel_rfl) (fun _ _ _ h => h) (Or.inl ⟨by rfl, fun w _ => by go_simp⟩) hHeld ?_
    simp only [Act.put, List.setIfInBounds_toArray, List.set_cons_zero, List.set_cons_succ]
    refine wpAnyH_take (i := 8) (oi := ⟨some 17, .indexAddr 23 (.tmp 16) (.tmp 13), _, _, _, none⟩) (v := .pointer (some ⟨B, 1 + k, none⟩)) rfl (by kernel_rfl) (by kernel_rfl) (by kernel_rfl) (fun _ _ _ h => h) (Or.inl ⟨by rfl, fun w _ => by go_simp⟩) hHeld ?_
    simp only [Act.put, List.setIfInBounds_toArray, List.set_cons_zero, List.set_cons_succ]
    refine wpAnyH_take (i := 10) (oi := ⟨some 19, .move (.tmp 4), _, _, _, none⟩) (v := .int .i64 (j : Int)) rfl (by kernel_rfl) (by kernel_rfl) (by kernel_rfl) (fun _ _ _ h => h) (Or.inl ⟨by rfl, fun _ _ => rfl⟩) hHeld ?_
    simp only [Act.put, List.setIfInBounds_toArray, List.set_cons_zero, List.set_cons_succ]
    refine wpAnyH_take (i := 13) (oi := ⟨some 22, .nilCheck (.tmp 9), _, _, _, none⟩) (v := .pointer (some ⟨B, 0, none⟩)) rfl (by kernel_rfl) (by kernel_rfl) (by kernel_rfl) (fun _ _ _ h => h) (Or.inl ⟨by rfl, fun w _ => by go_simp⟩) hHeld ?_
    simp only [Act.put, List.setIfInBounds_toArray, List.set_cons_zero, List.set_cons_succ]
    refine wpAnyH_take (i := 14) (oi := ⟨some 23, .fieldAddr 60 (.tmp 22) 0, _, _, _, none⟩) (v := .pointer (some ⟨B, 0, none⟩)) rfl (by kernel_rfl) (by kernel_rfl) (by kernel_rfl) (fun _ _ _ h => h) (Or.inl ⟨by rfl, fun w _ => by go_simp⟩) hHeld ?_
    simp only [Act.put, List.setIfInBounds_toArray, List.set_cons_zero, List.set_cons_succ]
    refine wpAnyH_take (i := 15) (oi := ⟨some 24, .fieldAddr 26 (.tmp 23) 1, _, _, _, none⟩) (v := .pointer (some ⟨B, 1, none⟩)) rfl (by kernel_rfl) (by kernel_rfl) (by kernel_rfl) (fun _ _ _ h => h) (Or.inl ⟨by rfl, fun w _ => by go_simp⟩) hHeld ?_
    simp only [Act.put, List.setIfInBounds_toArray, List.set_cons_zero, List.set_cons_succ]
    refine wpAnyH_ready (rs := [9, 11]) (by kernel_rfl) (by simp) (AllReadyH.cons (o := ⟨some 18, .load 22 (.tmp 17), _, _, _, none⟩) rfl (fun K' hK => ?_) (AllReadyH.cons (o := ⟨some 20, .call { callee := .value (.func 32), args := #[.tmp 19], argTypes := #[58] }, _, _, _, none⟩) rfl (fun K' hK => ?_) AllReadyH.nil))
    · go_simp
      refine hK.out _ _ (hb.cell (as_k x k)) (fun hHeld => ?_)
      clear hK K'
      try simp only [Act.put, List.setIfInBounds_toArray, List.set_cons_zero, List.set_cons_succ]
      refine wpAnyH_ready (rs := [11]) (by kernel_rfl) (by simp) (AllReadyH.cons (o := ⟨some 20, .call { callee := .value (.func 32), args := #[.tmp 19], argTypes := #[58] }, _, _, _, none⟩) rfl (fun K' hK => ?_) AllReadyH.nil)
      go_simp
      refine (KB.out _).mono ?_
      rintro e v1 ⟨rfl, rfl⟩
      refine hK.out _ _ (hb.cell (as_k x k)) (fun hHeld => ?_)
      clear hK K'
      try simp only [Act.put, List.setIfInBounds_toArray, List.set_cons_zero, List.set_cons_succ]
      refine wpAnyH_take (i := 12) (oi := ⟨some 21, .binOp .andNot 22 (.tmp 18) (.tmp 20) 22, _, _, _, none⟩) (v := .int .u32 (anB (x.r k) j)) rfl (by kernel_rfl) (by kernel_rfl) (by kernel_rfl) (fun _ _ _ h => h) (Or.inl ⟨by rfl, fun w _ => by go_simp⟩) hHeld ?_
      simp only [Act.put, List.setIfInBounds_toArray, List.set_cons_zero, List.set_cons_succ]
      refine wpAnyH_take (i := 16) (oi := ⟨some 25, .indexAddr 23 (.tmp 24) (.tmp 13), _, _, _, none⟩) (v := .pointer (some ⟨B, 1 + k, none⟩)) rfl (by kernel_rfl) (by kernel_rfl) (by kernel_rfl) (fun _ _ _ h => h) (Or.inl ⟨by rfl, fun w _ => by go_simp⟩) hHeld ?_
      simp only [Act.put, List.setIfInBounds_toArray, List.set_cons_zero, List.set_cons_succ]
      refine wpAnyH_ready (rs := [17]) (by kernel_rfl) (by simp) (AllReadyH.cons (o := ⟨none, .store 22 (.tmp 25) (.tmp 21), _, _, _, none⟩) rfl (fun K' hK => ?_) AllReadyH.nil)
      go_simp
      replace hb : Blk _ B 60 (Acs { x with r := upd x.r k (anB (x.r k) j) } k) := (by rw [← as_sr x k h4]; exact hb.set (1 + k) (.int .u32 (anB (x.r k) j)))
      replace lw := lw.setCell (p := ⟨B, 1 + k, none⟩) (Nat.le_refl _) (.int .u32 (anB (x.r k) j))
      refine hK.out _ _ (hb.cell (as_k x k)) (fun hHeld => ?_)
      clear hK K'
      try simp only [Act.put]
      refine wpAnyH_done (by kernel_rfl) ?_ _
      clear hHeld
      clear e1 f1 e0
      go_wp2
      go_end0
      exact ⟨rfl, hb, lw⟩
    · go_simp
      refine (KB.out _).mono ?_
      rintro e v1 ⟨rfl, rfl⟩
      refine hK.out _ _ (hb.cell (as_k x k)) (fun hHeld => ?_)
      clear hK K'
      try simp only [Act.put, List.setIfInBounds_toArray, List.set_cons_zero, List.set_cons_succ]
      refine wpAnyH_ready (rs := [9]) (by kernel_rfl) (by simp) (AllReadyH.cons (o := ⟨some 18, .load 22 (.tmp 17), _, _, _, none⟩) rfl (fun K' hK => ?_) AllReadyH.nil)
      go_simp
      refine hK.out _ _ (hb.cell (as_k x k)) (fun hHeld => ?_)
      clear hK K'
      try simp only [Act.put, List.setIfInBounds_toArray, List.set_cons_zero, List.set_cons_succ]
      refine wpAnyH_take (i := 12) (oi := ⟨some 21, .binOp .andNot 22 (.tmp 18) (.tmp 20) 22, _, _, _, none⟩) (v := .int .u32 (anB (x.r k) j)) rfl (by kernel_rfl) (by kernel_rfl) (by kernel_rfl) (fun _ _ _ h => h) (Or.inl ⟨by rfl, fun w _ => by go_simp⟩) hHeld ?_
      simp only [Act.put, List.setIfInBounds_toArray, List.set_cons_zero, List.set_cons_succ]
      refine wpAnyH_take (i := 16) (oi := ⟨some 25, .indexAddr 23 (.tmp 24) (.tmp 13), _, _, _, none⟩) (v := .pointer (some ⟨B, 1 + k, none⟩)) rfl (by kernel_rfl) (by kernel_rfl) (by kernel_rfl) (fun _ _ _ h => h) (Or.inl ⟨by rfl, fun w _ => by go_simp⟩) hHeld ?_
      simp only [Act.put, List.setIfInBounds_toArray, List.set_cons_zero, List.set_cons_succ]
      refine wpAnyH_ready (rs := [17]) (by kernel_rfl) (by simp) (AllReadyH.cons (o := ⟨none, .store 22 (.tmp 25) (.tmp 21), _, _, _, none⟩) rfl (fun K' hK => ?_) AllReadyH.nil)
      go_simp
      replace hb : Blk _ B 60 (Acs { x with r := upd x.r k (anB (x.r k) j) } k) := (by rw [← as_sr x k h4]; exact hb.set (1 + k) (.int .u32 (anB (x.r k) j)))
      replace lw := lw.setCell (p := ⟨B, 1 + k, none⟩) (Nat.le_refl _) (.int .u32 (anB (x.r k) j))
      refine hK.out _ _ (hb.cell (as_k x k)) (fun hHeld => ?_)
      clear hK K'
      try simp only [Act.put]
      refine wpAnyH_done (by kernel_rfl) ?_ _
      clear hHeld
      clear e1 f1 e0
      go_wp2
      go_end0
      exact ⟨rfl, hb, lw⟩
  · have hres : x.out k 2 (j : Int) = x := by unfold Ctl.out; simp [h5]
    rw [hres]
    rw [decide_eq_false (by omega)] at KI
    clear hres hx hw hv
    go_enter Try.func43, Try.ntmps43
    go_wp2_with (go_at_call 31; (with_reducible refine (KI.out _).mono ?_); rintro e w1 ⟨rfl, rfl⟩)
    go_end0
    exact ⟨rfl, hb, lw⟩
omit hw in
set_option maxRecDepth 100000 in
set_option maxHeartbeats 1000000 in
theorem route_any (v : Int) (hv : Tm.isE v) : Calls Try.prog 45 #[pA B, .int .u32 v] w fun e w' => e = .returned (.tuple #[]) ∧ Blk w' B 60 (Acs (x.out k 4 v) k) ∧ Below B w w' := by
  have hn4 := hx.n4
  have lw : Below B w w := Below.refl _ _
  have hbl := Nat.le_of_lt hb.lt
  have t1 : v.tdiv 16 = v / 16 := Int.tdiv_eq_ediv_of_nonneg hv.1
  have t2 : v.tmod 16 = v % 16 := Int.tmod_eq_emod_of_nonneg hv.1
  have hv1 := hv.1
  have hv2 := hv.2
  have KO := Lib.hid fun w' => ofDevice_any (v / 16) w'
  have KH := Lib.hid fun w' => has_any x (v % 16) w' hn4
  have w1 := wraps_i64 (v / 16) (by omega) (by omega)
  have w2 := wraps_i64 (v % 16) (by omega) (by omega)
  unfold pA
  by_cases hd : dev (v / 16) = true
  · rw [hd] at KO
    by_cases hn : v % 16 < x.n
    · have hres : x.out k 4 v = { x with t := upd x.t (v / 16).toNat (v % 16) } := by unfold Ctl.out; simp [hd, hn]
      rw [hres]
      rw [decide_eq_true ⟨by omega, hn⟩] at KH
      have hd5 : 1 ≤ v / 16 ∧ v / 16 ≤ 3 := of_decide_eq_true hd
      obtain ⟨j, hj⟩ : ∃ j : Nat, v / 16 = (j : Int) := ⟨(v / 16).toNat, by omega⟩
      obtain ⟨p, hp⟩ : ∃ p : Nat, v % 16 = (p : Int) := ⟨(v % 16).toNat, by omega⟩
      rw [hj] at KO w1 hd5 t1 ⊢
      rw [hp] at KH w2 t2 ⊢
      rw [Int.toNat_natCast]
      have hj5 : j < 5 := by omega
      have hji : (j : Int) < 5 := by omega
      have hj0 : (0 : Int) ≤ (j : Int) := by omega
      clear hres hx hv hd hj hp hd5 hv1 hv2 hn
      go_enter Try.func45, Try.ntmps45
      go_wp2_with (first
      | (go_at_call 27; (with_reducible refine (KO.out _).mono ?_); rintro e w1 ⟨rfl, rfl⟩)
      | ((with_reducible refine wpList_load_atg (o := ⟨some 18, .load 26 (.tmp 17), _, _, _, _⟩) _ _ rfl B 0 14 60 (Acs x k) x.cells _ ?_ ?_ ?_ (as_drop x k) Try.underlying26 rfl (ctl_sz _) ?_); rfl; rfl; exact hb)
      | (go_at_call 26; (with_reducible refine (KH.out _).mono ?_); rintro e w1 ⟨rfl, l1⟩; replace hb := hb.keep l1; replace lw := Below.trans lw (l1.mono hbl); have e1 := hb.cell (as_at x k (ctl_t x hj5)); have f1 := hb.frz (9 + j)))
      go_end0
      refine ⟨rfl, ?_, lw.setCell (p := ⟨B, 9 + j, none⟩) (Nat.le_refl _) _⟩
      rw [← as_st x k hj5]
      exact hb.set (9 + j) (.int .i64 (p : Int))
    · have hres : x.out k 4 v = x := by unfold Ctl.out; simp [hn]
      rw [hres]
      rw [decide_eq_false (by omega)] at KH
      obtain ⟨q, hq⟩ : ∃ q, v / 16 = q := ⟨_, rfl⟩
      have m1 : q % 4294967296 = q := by omega
      obtain ⟨p, hp⟩ : ∃ p, v % 16 = p := ⟨_, rfl⟩
      rw [hq] at KO w1 t1
      rw [hp] at KH w2 t2
      clear hres hx hv hd hv1 hv2 hn hq hp
      go_enter Try.func45, Try.ntmps45
      go_wp2_with (first
      | (go_at_call 27; (with_reducible refine (KO.out _).mono ?_); rintro e w1 ⟨rfl, rfl⟩)
      | ((with_reducible refine wpList_load_atg (o := ⟨some 18, .load 26 (.tmp 17), _, _, _, _⟩) _ _ rfl B 0 14 60 (Acs x k) x.cells _ ?_ ?_ ?_ (as_drop x k) Try.underlying26 rfl (ctl_sz _) ?_); rfl; rfl; exact hb)
      | (go_at_call 26; (with_reducible refine (KH.out _).mono ?_); rintro e w1 ⟨rfl, l1⟩; replace hb := hb.keep l1; replace lw := Below.trans lw (l1.mono hbl)))
      go_end0
      exact ⟨rfl, hb, lw⟩
  · have hres : x.out k 4 v = x := by unfold Ctl.out; simp [hd]
    rw [hres]
    have hd : dev (v / 16) = false := by simpa using hd
    rw [hd] at KO
    obtain ⟨q, hq⟩ : ∃ q, v / 16 = q := ⟨_, rfl⟩
    have m1 : q % 4294967296 = q := by omega
    obtain ⟨p, hp⟩ : ∃ p, v % 16 = p := ⟨_, rfl⟩
    rw [hq] at KO w1 t1
    rw [hp] at KH w2 t2
    clear hres hx hv hd hv1 hv2 hq hp
    go_enter Try.func45, Try.ntmps45
    go_wp2_with (first
      | (go_at_call 27; (with_reducible refine (KO.out _).mono ?_); rintro e w1 ⟨rfl, rfl⟩)
      | ((with_reducible refine wpList_load_atg (o := ⟨some 18, .load 26 (.tmp 17), _, _, _, _⟩) _ _ rfl B 0 14 60 (Acs x k) x.cells _ ?_ ?_ ?_ (as_drop x k) Try.underlying26 rfl (ctl_sz _) ?_); rfl; rfl; exact hb)
      | (go_at_call 26; (with_reducible refine (KH.out _).mono ?_); rintro e w1 ⟨rfl, l1⟩; replace hb := hb.keep l1; replace lw := Below.trans lw (l1.mono hbl)))
    go_end0
    exact ⟨rfl, hb, lw⟩
end
set_option maxRecDepth 100000 in
/-- A signal to a processor that there is not. -/
theorem raise_no (x : Ctl) (v : Int) (w : World) (hn4 : x.n ≤ 4) (hv : ¬ v < x.n) : Calls Try.prog 14 #[.agg x.cells.toArray, .int .i64 4, .int .i64 v] w fun e w' => e = .returned (.agg x.cells.toArray) ∧ Later w w' := by
  have b3 := (Blk.new w 26 x.cells.toArray x.cells rfl).alloc (.cells zK.cells.toArray 26)
  have b6 := Blk.new' (w.alloc (.cells x.cells.toArray 26)) (w.heap.size + 1) 26 zK.cells.toArray zK.cells (by simp) rfl
  have lw := (later1 w (.cells x.cells.toArray 26)).alloc (by simp) (.cells zK.cells.toArray 26)
  have KO := Lib.hid fun w' => ofDevice_any 4 w'
  have KI := Lib.hid fun w' => is_any 4 w'
  have KH := Lib.hid fun w' => has_any x v w' hn4
  rw [decide_eq_false (by omega)] at KH
  rw [show dev 4 = false from rfl] at KO
  rw [show decide ((0 : Int) ≤ 4 ∧ (4 : Int) < 5) = true from rfl] at KI
  clear hv hn4
  go_enter Try.func14, Try.ntmps14
  go_upto_region 1 with fail
  obtain ⟨u0, hu⟩ : ∃ u0, (w.alloc (.cells x.cells.toArray 26)).alloc (.cells zK.cells.toArray 26) = u0 := ⟨_, rfl⟩
  rw [hu] at b3 b6 lw
  have hu2 : (w.alloc (.cells x.cells.toArray 26)).alloc (.cells #[.int .i64 0, .int .u32 0, .int .u32 0, .int .u32 0, .int .u32 0, .int .u32 0, .int .u32 0, .int .u32 0, .int .u32 0, .int .i64 0, .int .i64 0, .int .i64 0, .int .i64 0, .int .i64 0] 26) = u0 := hu
  rw [hu2]
  clear hu hu2
  go_upto_region 6 with (first
    | (go_at_call 27; (with_reducible refine (KO.out _).mono ?_); rintro e w1 ⟨rfl, rfl⟩)
    | (go_at_call 31; (with_reducible refine (KI.out _).mono ?_); rintro e w1 ⟨rfl, rfl⟩)
    | ((with_reducible refine wpList_load_g (o := ⟨some 18, .load 26 (.tmp 3), _, _, _, _⟩) _ _ rfl w.heap.size 26 x.cells _ ?_ ?_ ?_ Try.underlying26 ?_ (ctl_sz _) ?_); rfl; rfl; exact b3; rfl)
    | (go_at_call 26; (with_reducible refine (KH.out _).mono ?_); rintro e w1 ⟨rfl, l1⟩; replace b3 := b3.keep l1; replace b6 := b6.keep l1; replace lw := Later.trans_ lw l1))
  go_wp2_with (first
    | ((with_reducible refine wpList_load_blk (o := ⟨some 31, .load 26 (.tmp 3), _, _, _, none⟩) rfl _ _ rfl w.heap.size 26 x.cells _ ?_ ?_ Try.underlying26 rfl (ctl_sz _) ?_); rfl; exact b3)
    | ((with_reducible refine wpList_store_abs (o := ⟨none, .store 26 (.tmp 6) (.tmp 31), _, _, _, none⟩) rfl _ _ _ rfl (w.heap.size + 1) 26 zK.cells x.cells ?_ ?_ ?_ ?_ ?_ ?_ ?_); rfl; rfl; exact b6; exact ctl_sz _; rfl; exact ctl_one _; intro w9 b9 o9))
  exact bodyPost_ret (ctl_ret Try.results14 _ _ (w.heap.size + 1) x rfl b9) rfl ⟨rfl, Below.only lw o9 (by omega)⟩
set_option maxRecDepth 100000 in
set_option maxHeartbeats 1000000 in
theorem signal_any {w : World} {B : Nat} {x : Ctl} {k : Nat} (hb : Blk w B 60 (Acs x k)) (hx : x.Ok) (hw : x.wf) (v : Int) (hv : Tm.isE v) : Calls Try.prog 44 #[pA B, .int .u32 v] w fun e w' => e = .returned (.tuple #[]) ∧ Blk w' B 60 (Acs (x.out k 3 v) k) ∧ Below B w w' := by
  have lw : Below B w w := Below.refl _ _
  have hbl := Nat.le_of_lt hb.lt
  have w1 := wraps_i64 v hv.1 (by have := hv.2; omega)
  have KR := Lib.hid fun w' => (show Calls Try.prog 14 #[.agg x.cells.toArray, .int .i64 4, .int .i64 v] w' fun e w'' => e = .returned (.agg (x.out k 3 v).cells.toArray) ∧ Later w' w'' from by
    by_cases h : v < x.n
    · have hres : x.out k 3 v = x.raise 4 v.toNat := by unfold Ctl.out; simp [h]
      rw [hres]
      have h9 := raise_any x 4 v.toNat w' hx hw (by have := hv.1; omega)
      rw [show ((v.toNat : Nat) : Int) = v by have := hv.1; omega] at h9
      exact h9
    · have hres : x.out k 3 v = x := by unfold Ctl.out; simp [h]
      rw [hres]
      exact raise_no x v w' hx.n4 h)
  obtain ⟨y, hy⟩ : ∃ y, y = x.out k 3 v := ⟨_, rfl⟩
  rw [← hy] at KR ⊢
  clear hy hx hw hv
  unfold pA
  go_enter Try.func44, Try.ntmps44
  go_wp2_with (first
    | ((with_reducible refine wpList_load_at (o := ⟨some 8, .load 26 (.tmp 7), _, _, _, none⟩) rfl _ _ rfl B 0 14 60 (Acs x k) x.cells _ ?_ ?_ (as_drop x k) Try.underlying26 rfl (ctl_sz _) ?_); rfl; exact hb)
    | (go_at_call 14; (with_reducible refine (KR.out _).mono ?_); rintro e w1 ⟨rfl, l1⟩; replace hb := hb.keep l1; replace lw := Below.trans lw (l1.mono hbl))
    | ((with_reducible refine wpList_store_at (o := ⟨none, .store 26 (.tmp 13) (.tmp 11), _, _, _, none⟩) rfl _ _ _ rfl rfl B 0 60 (Acs x k) y.cells ?_ ?_ ?_ (ctl_sz _) ?_ (ctl_one _) ?_); rfl; rfl; exact hb; exact (show 0 + 14 ≤ 15 from by decide); intro w9 b9 o9; replace hb := b9; rw [as_put] at hb))
  go_end0
  exact ⟨rfl, hb, Below.only lw o9 (Nat.le_refl _)⟩
def rdV (a : Value) (op : Int) : Value := if op = 0 then .func (.func 40) #[a] #[] else if op = 1 then .func (.func 41) #[a] #[] else .nilFunc
def rdE (a : Value) : Array MapEntry := #[⟨.int .i64 0, .func (.func 40) #[a] #[], 0⟩, ⟨.int .i64 1, .func (.func 41) #[a] #[], 1⟩]
def rdB (op : Int) : Bool := op == 0 || op == 1
theorem rd_look (a : Value) (op : Int) {w : World} {b c : Nat} (hb : w.heap[b]? = some (.map (rdE a) c)) : (Instr.lookup 63 (.map (some b)) (.int .i64 op) true).run Try.prog w = .ok (.tuple #[rdV a op, .bool (rdB op)]) w := by
  by_cases h0 : op = 0
  · subst h0; exact run_look_hit Try.underlying63 Try.underlying3 hb 0 0 _ rfl
  by_cases h1 : op = 1
  · subst h1; exact run_look_hit Try.underlying63 Try.underlying3 hb 1 1 _ rfl
  have e1 : rdV a op = .nilFunc := by unfold rdV; simp [h0, h1]
  have e2 : rdB op = false := by unfold rdB; simp [h0, h1]
  rw [e1, e2]
  refine run_look_miss Try.underlying63 Try.underlying3 (by kernel_rfl) hb op ?_
  simp only [rdE, Instr.findNow, Instr.sameNow, beq_false_of_ne h0, beq_false_of_ne h1, if_true]

set_option maxRecDepth 100000 in
theorem rd_any (B : Nat) (w : World) : Calls Try.prog 28 #[pA B] w fun e w' => e = .returned (.map (some w.heap.size)) ∧ w'.heap[w.heap.size]? = some (.map (rdE (pA B)) 2) ∧ Later w w' := by
  have hmm := @run_makeMap Try.prog
  have hb0 := heap_alloc_new w (.map #[] 0)
  have hl0 : Later w (w.alloc (.map #[] 0)) := (Below.refl _ _).alloc (Nat.le_refl _) _
  unfold pA
  go_enter Try.func28, Try.ntmps28
  go_wp2_with (refine wpList_insert rfl _ _ _ rfl Try.underlying63 Try.underlying3 rfl (by assumption) (by assumption) _ _ rfl rfl rfl ?_; intro w' hb' hl')
  go_ret
  exact ⟨rfl, hb', hl'⟩
def wtV (a : Value) (op : Int) : Value := if op = 0 then .func (.func 42) #[a] #[] else if op = 2 then .func (.func 43) #[a] #[] else if op = 3 then .func (.func 44) #[a] #[] else if op = 4 then .func (.func 45) #[a] #[] else .nilFunc
def wtE (a : Value) : Array MapEntry := #[⟨.int .i64 0, .func (.func 42) #[a] #[], 0⟩, ⟨.int .i64 2, .func (.func 43) #[a] #[], 1⟩, ⟨.int .i64 3, .func (.func 44) #[a] #[], 2⟩, ⟨.int .i64 4, .func (.func 45) #[a] #[], 3⟩]
def wtB (op : Int) : Bool := op == 0 || op == 2 || op == 3 || op == 4
theorem wt_look (a : Value) (op : Int) {w : World} {b c : Nat} (hb : w.heap[b]? = some (.map (wtE a) c)) : (Instr.lookup 67 (.map (some b)) (.int .i64 op) true).run Try.prog w = .ok (.tuple #[wtV a op, .bool (wtB op)]) w := by
  by_cases h0 : op = 0
  · subst h0; exact run_look_hit Try.underlying67 Try.underlying3 hb 0 0 _ rfl
  by_cases h1 : op = 2
  · subst h1; exact run_look_hit Try.underlying67 Try.underlying3 hb 2 1 _ rfl
  by_cases h2 : op = 3
  · subst h2; exact run_look_hit Try.underlying67 Try.underlying3 hb 3 2 _ rfl
  by_cases h3 : op = 4
  · subst h3; exact run_look_hit Try.underlying67 Try.underlying3 hb 4 3 _ rfl
  have e1 : wtV a op = .nilFunc := by unfold wtV; simp [h0, h1, h2, h3]
  have e2 : wtB op = false := by unfold wtB; simp [h0, h1, h2, h3]
  rw [e1, e2]
  refine run_look_miss Try.underlying67 Try.underlying3 (by kernel_rfl) hb op ?_
  simp only [wtE, Instr.findNow, Instr.sameNow, beq_false_of_ne h0, beq_false_of_ne h1, beq_false_of_ne h2, beq_false_of_ne h3, if_true]

set_option maxRecDepth 100000 in
theorem wt_any (B : Nat) (w : World) : Calls Try.prog 29 #[pA B] w fun e w' => e = .returned (.map (some w.heap.size)) ∧ w'.heap[w.heap.size]? = some (.map (wtE (pA B)) 4) ∧ Later w w' := by
  have hmm := @run_makeMap Try.prog
  have hb0 := heap_alloc_new w (.map #[] 0)
  have hl0 : Later w (w.alloc (.map #[] 0)) := (Below.refl _ _).alloc (Nat.le_refl _) _
  unfold pA
  go_enter Try.func29, Try.ntmps29
  go_wp2_with (refine wpList_insert rfl _ _ _ rfl Try.underlying67 Try.underlying3 rfl (by assumption) (by assumption) _ _ rfl rfl rfl ?_; intro w' hb' hl')
  go_ret
  exact ⟨rfl, hb', hl'⟩
end Go.Proofs.Ytkpigonlnabmdab
