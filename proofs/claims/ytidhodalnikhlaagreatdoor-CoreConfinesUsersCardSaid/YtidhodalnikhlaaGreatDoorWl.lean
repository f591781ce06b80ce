/-
  do OF a step: the deferred closure in its two modes.
-/
import Derived.Test.YtidhodalnikhlaaGreatDoorWk
namespace Go.Proofs.YtidhodalnikhlaaGreatDoor
open Go.RowKit Go.ChangeShapes Go.WideShapes Go.ChangeAt

section
variable {P : Program} {ops : Array Oper} {Q : Exit → Act → List Frame → World → Prop} {a : Act} {cs : List Frame} {w w' : World} {i : Nat} {rest : List Nat}
theorem opsS_val (o : Oper) (v : Value) (hi : ops[i]? = some o) (hg : Region.wanted o (yielded ops a.tmps) = true) (hr : (execOp a.eval o).run P w = .ok (.value v) w') (h : wpOpsS P ops Q rest (a.put o.dst v) cs w') : wpOpsS P ops Q (i :: rest) a cs w := by
  unfold wpOpsS
  simp only [hi, hg, if_true, hr]
  exact h
theorem opsS_skip (o : Oper) (hi : ops[i]? = some o) (hg : Region.wanted o (yielded ops a.tmps) = true) (hr : (execOp a.eval o).run P w = .ok .skip w') (h : wpOpsS P ops Q rest (a.put o.dst undef) cs w') : wpOpsS P ops Q (i :: rest) a cs w := by
  unfold wpOpsS
  simp only [hi, hg, if_true, hr]
  exact h
theorem opsS_store (o : Oper) (ty : TypeId) (x y : Operand) (ho : o.op = .store ty x y) (hi : ops[i]? = some o) (hg : Region.wanted o (yielded ops a.tmps) = true)
    (g off : Nat) (t : TypeId) (old new : List Value) (hx : a.eval x = .pointer (some ⟨g, off, none⟩)) (hy : a.eval y = .agg new.toArray) (hb : Blk w g t old)
    (hz : (P.info? ty).map (·.size) = some new.length) (hold : off + new.length ≤ old.length) (h1 : ∀ v ∈ new, v.oneCell' = true)
    (h : ∀ w', Blk w' g t (old.take off ++ new ++ old.drop (off + new.length)) → Only g w w' → wpOpsS P ops Q rest (a.put o.dst undef) cs w') : wpOpsS P ops Q (i :: rest) a cs w := by
  refine opsS_skip (w' := w.setCells g off new) o hi hg ?_ (h _ (hb.sets off new hold) (Only.sets _ _ _ _))
  have h2 := run_storeVar_mid (P := P) w g off ty new.toArray (hb.there off _ (by simpa using hold)) (by rw [List.size_toArray]; exact hz) (all_oneCell_toArray h1)
  unfold execOp
  simp only [ho, hx, hy, Instr.storeAt, Instr.sureAddr, Sem.run_bind, Sem.run_pure, Result.andThen_ok, h2]
theorem opsS_rec (o : Oper) (v : Value) (cs' : List Frame) (hi : ops[i]? = some o) (hg : Region.wanted o (yielded ops a.tmps) = true) (hr : (execOp a.eval o).run P w = .ok .recover w) (hc : recoverD cs = some (v, cs')) (h : wpOpsS P ops Q rest (a.put o.dst v) cs' w) : wpOpsS P ops Q (i :: rest) a cs w := by
  unfold wpOpsS
  simp only [hi, hg, if_true, hr, hc]
  exact h
theorem opsS_rec0 (o : Oper) (hi : ops[i]? = some o) (hg : Region.wanted o (yielded ops a.tmps) = true) (hr : (execOp a.eval o).run P w = .ok .recover w) (hc : recoverD cs = none) (h : wpOpsS P ops Q rest (a.put o.dst .nilIface) cs w) : wpOpsS P ops Q (i :: rest) a cs w := by
  unfold wpOpsS
  simp only [hi, hg, if_true, hr, hc]
  exact h
end
def Lz (ca v p : Int) : Value := .agg #[.int .u32 ca, .int .u32 v, .int .u32 p]
theorem ta_nil (t0 : TypeId) (w : World) : (Instr.typeAssert .nilIface t0 149 true).run Tryz.prog w = .ok (.tuple #[Lz 0 0 0, .bool false]) w := by
  simp [Instr.typeAssert, run_underlying Tryz.underlying149, go_sem]
  rfl
theorem ta_lv (t0 : TypeId) (x : Value) (w : World) : (Instr.typeAssert (.iface 149 x) t0 149 true).run Tryz.prog w = .ok (.tuple #[x, .bool true]) w := by
  simp [Instr.typeAssert, run_underlying Tryz.underlying149, go_sem]
set_option maxRecDepth 100000 in
set_option maxHeartbeats 2000000 in
theorem dcatch_idle (p0 : Addr) (w : World) :
    CallsD Tryz.prog 74 #[.pointer (some p0)] .returning w fun e u' w' => e = .returned (.tuple #[]) ∧ u' = .returning ∧ Later w w' := by
  refine callsD_of_wpS Tryz.func74 rfl fun c₀ cs hu => ?_
  apply wpS_seq
  apply wpS_region
  simp only [Tryz.ntmps74, List.size_toArray, List.length_cons, List.length_nil, Nat.reduceAdd, Nat.reduceSub, Array.replicate_succ, Array.replicate_zero, List.push_toArray, List.append_toArray, List.nil_append, List.cons_append]
  rw [show List.range 8 = [0, 1, 2, 3, 4, 5, 6, 7] from rfl]
  refine opsS_rec0 ⟨some 4, .call { callee := .builtin .recover, args := #[], argTypes := #[] }, _, _, _, none⟩ rfl (by kernel_rfl) rfl (by simp [recoverD, hu]) ?_
  simp only [Act.put, List.setIfInBounds_toArray, List.set_cons_zero, List.set_cons_succ]
  refine opsS_val (w' := w) ⟨some 5, .typeAssert (.tmp 4) _ 149 true, _, _, _, none⟩ (.tuple #[Lz 0 0 0, .bool false]) rfl (by kernel_rfl) (by simp [execOp, Act.eval, ta_nil, Result.andThen]) ?_
  simp only [Act.put, List.setIfInBounds_toArray, List.set_cons_zero, List.set_cons_succ]
  refine opsS_val ⟨some 3, .move (.tmp 5), _, _, _, none⟩ (.tuple #[Lz 0 0 0, .bool false]) rfl (by kernel_rfl) rfl ?_
  simp only [Act.put, List.setIfInBounds_toArray, List.set_cons_zero, List.set_cons_succ]
  refine opsS_val ⟨some 6, .extract (.tmp 3) 0, _, _, _, none⟩ (Lz 0 0 0) rfl (by kernel_rfl) rfl ?_
  simp only [Act.put, List.setIfInBounds_toArray, List.set_cons_zero, List.set_cons_succ]
  refine opsS_val ⟨some 7, .extract (.tmp 3) 1, _, _, _, none⟩ (.bool false) rfl (by kernel_rfl) rfl ?_
  simp only [Act.put, List.setIfInBounds_toArray, List.set_cons_zero, List.set_cons_succ]
  refine opsS_val (w' := w.alloc (.cells #[.int .u32 0, .int .u32 0, .int .u32 0] 149)) ⟨some 1, .alloc 149, _, _, _, none⟩ (.pointer (some ⟨w.heap.size, 0, none⟩)) rfl (by kernel_rfl) (by simp [execOp, go_sem]) ?_
  simp only [Act.put, List.setIfInBounds_toArray, List.set_cons_zero, List.set_cons_succ]
  refine opsS_store ⟨none, .store 149 (.tmp 1) (.tmp 6), _, _, _, none⟩ 149 (.tmp 1) (.tmp 6) rfl rfl (by kernel_rfl) w.heap.size 0 149 [.int .u32 0, .int .u32 0, .int .u32 0] [.int .u32 0, .int .u32 0, .int .u32 0] rfl rfl (Blk.new w 149 _ _ rfl) (by show _ = some 3; kernel_rfl) (by decide) (by simp; rfl) ?_
  intro w1 b1 o1
  simp only [Act.put]
  refine opsS_val ⟨some 2, .assign (.tmp 7), _, _, _, none⟩ (.bool false) rfl (by kernel_rfl) rfl ?_
  simp only [Act.put, List.setIfInBounds_toArray, List.set_cons_zero, List.set_cons_succ]
  simp only [wpOpsS, Exit.thenS]
  refine wpS_of_wp ?_
  go_wp2
  exact ⟨rfl, _, rfl, _, by simp [results, Tryz.results74], rfl, hu, Below.only (later1 w _) o1 (Nat.le_refl _)⟩
theorem lv_one (x y z : Int) : ∀ u ∈ [Value.int .u32 x, .int .u32 y, .int .u32 z], u.oneCell' = true := by
  intro u hu
  simp only [List.mem_cons, List.not_mem_nil, or_false] at hu
  rcases hu with rfl | rfl | rfl <;> rfl
set_option maxRecDepth 100000 in
set_option maxHeartbeats 2000000 in
theorem dcatch_lv {base : Nat} {w : World} {B : Nat} {s : Sp} {A : Option Addr} {n c : Nat} {ws : List (Int × Int × Int)} {ac : List (Int × Int × Bool)} {b : Wm.Bs} (h : At base w B s A n c ws ac b) (gS : Nat) (hG : Blk w gS 147 [.pointer (some ⟨B, 0, none⟩)]) (ca v p : Int) (hca : 0 ≤ ca ∧ ca < 4294967296) (h5 : Tm.isE s.c.c5) :
    CallsD Tryz.prog 74 #[.pointer (some ⟨gS, 0, none⟩)] (.panicking (Lv ca v p)) w fun e u' w' => e = .returned (.tuple #[]) ∧ u' = .panicking [{ v := .iface 149 (Lz ca v p), recovered := true }] ∧ At base w' B { s with c := Cpu.enter s.c ca v p, tr := ca } A n c ws ac b ∧ St base B w s w' { s with c := Cpu.enter s.c ca v p, tr := ca } := by
  have HE := Lib.hid fun w' => enter_any s.c ca v p w' h5
  refine callsD_of_wpS Tryz.func74 rfl fun c₀ cs hu => ?_
  apply wpS_seq
  apply wpS_region
  simp only [Tryz.ntmps74, List.size_toArray, List.length_cons, List.length_nil, Nat.reduceAdd, Nat.reduceSub, Array.replicate_succ, Array.replicate_zero, List.push_toArray, List.append_toArray, List.nil_append, List.cons_append]
  rw [show List.range 8 = [0, 1, 2, 3, 4, 5, 6, 7] from rfl]
  refine opsS_rec (v := .iface 149 (Lz ca v p)) (cs' := { c₀ with mode := .panicking [{ v := .iface 149 (Lz ca v p), recovered := true }] } :: cs) ⟨some 4, .call { callee := .builtin .recover, args := #[], argTypes := #[] }, _, _, _, none⟩ rfl (by kernel_rfl) rfl (by simp [recoverD, hu, Lv, Lz]) ?_
  simp only [Act.put, List.setIfInBounds_toArray, List.set_cons_zero, List.set_cons_succ]
  refine opsS_val (w' := w) ⟨some 5, .typeAssert (.tmp 4) _ 149 true, _, _, _, none⟩ (.tuple #[Lz ca v p, .bool true]) rfl (by kernel_rfl) (by simp [execOp, Act.eval, ta_lv, Result.andThen]) ?_
  simp only [Act.put, List.setIfInBounds_toArray, List.set_cons_zero, List.set_cons_succ]
  refine opsS_val ⟨some 3, .move (.tmp 5), _, _, _, none⟩ (.tuple #[Lz ca v p, .bool true]) rfl (by kernel_rfl) rfl ?_
  simp only [Act.put, List.setIfInBounds_toArray, List.set_cons_zero, List.set_cons_succ]
  refine opsS_val ⟨some 6, .extract (.tmp 3) 0, _, _, _, none⟩ (Lz ca v p) rfl (by kernel_rfl) rfl ?_
  simp only [Act.put, List.setIfInBounds_toArray, List.set_cons_zero, List.set_cons_succ]
  refine opsS_val ⟨some 7, .extract (.tmp 3) 1, _, _, _, none⟩ (.bool true) rfl (by kernel_rfl) rfl ?_
  simp only [Act.put, List.setIfInBounds_toArray, List.set_cons_zero, List.set_cons_succ]
  refine opsS_val (w' := w.alloc (.cells #[.int .u32 0, .int .u32 0, .int .u32 0] 149)) ⟨some 1, .alloc 149, _, _, _, none⟩ (.pointer (some ⟨w.heap.size, 0, none⟩)) rfl (by kernel_rfl) (by simp [execOp, go_sem]) ?_
  simp only [Act.put, List.setIfInBounds_toArray, List.set_cons_zero, List.set_cons_succ]
  refine opsS_store ⟨none, .store 149 (.tmp 1) (.tmp 6), _, _, _, none⟩ 149 (.tmp 1) (.tmp 6) rfl rfl (by kernel_rfl) w.heap.size 0 149 [.int .u32 0, .int .u32 0, .int .u32 0] [.int .u32 ca, .int .u32 v, .int .u32 p] rfl rfl (Blk.new w 149 _ _ rfl) (by show _ = some 3; kernel_rfl) (show 0 + 3 ≤ 3 from by decide) (lv_one ca v p) ?_
  intro w1 b1 o1
  simp only [Act.put]
  refine opsS_val ⟨some 2, .assign (.tmp 7), _, _, _, none⟩ (.bool true) rfl (by kernel_rfl) rfl ?_
  simp only [Act.put, List.setIfInBounds_toArray, List.set_cons_zero, List.set_cons_succ]
  simp only [wpOpsS, Exit.thenS]
  refine wpS_of_wp ?_
  have l1 : Later w w1 := Below.only (later1 w _) o1 (Nat.le_refl _)
  have h1 := h.later l1
  replace hG := hG.keep l1
  replace b1 : Blk w1 w.heap.size 149 [.int .u32 ca, .int .u32 v, .int .u32 p] := b1
  obtain ⟨g, hg⟩ : ∃ g, g = w.heap.size := ⟨_, rfl⟩
  rw [← hg] at b1 ⊢
  have S1 := St.later (B := B) s h.lt l1
  have x1 : IntKind.i64.wrap ca = ca := by rw [IntKind.wrap_i64]; omega
  clear h o1 hg l1 hca h5
  go_wp2
  refine wp_region_held_drew (S := fun w' => w'.cell? ⟨gS, 0, none⟩ = some (.pointer (some ⟨B, 0, none⟩)) ∧ w'.cell? ⟨g, 0, none⟩ = some (.int .u32 ca) ∧ w'.cell? ⟨g, 1, none⟩ = some (.int .u32 v) ∧ w'.cell? ⟨g, 2, none⟩ = some (.int .u32 p)) (by kernel_rfl) ⟨hG.cell (j := 0) rfl, b1.cell (j := 0) rfl, b1.cell (j := 1) rfl, b1.cell (j := 2) rfl⟩ (fun hHeld => ?_)
  refine wpAnyH_take (i := 0) (oi := ⟨some 9, .load 147 (.tmp 0), _, _, _, none⟩) (v := .pointer (some ⟨B, 0, none⟩)) rfl (by kernel_rfl) (by kernel_rfl) (by kernel_rfl) (fun _ _ _ h => h) (Or.inl ⟨by rfl, fun w hSw => by have e1 := hSw.1; clear hSw; go_simp⟩) hHeld ?_
  simp only [Act.put, List.setIfInBounds_toArray, List.set_cons_zero, List.set_cons_succ]
  refine wpAnyH_take (i := 1) (oi := ⟨some 10, .load 147 (.tmp 0), _, _, _, none⟩) (v := .pointer (some ⟨B, 0, none⟩)) rfl (by kernel_rfl) (by kernel_rfl) (by kernel_rfl) (fun _ _ _ h => h) (Or.inl ⟨by rfl, fun w hSw => by have e1 := hSw.1; clear hSw; go_simp⟩) hHeld ?_
  simp only [Act.put, List.setIfInBounds_toArray, List.set_cons_zero, List.set_cons_succ]
  refine wpAnyH_take (i := 2) (oi := ⟨some 11, .nilCheck (.tmp 10), _, _, _, none⟩) (v := .pointer (some ⟨B, 0, none⟩)) rfl (by kernel_rfl) (by kernel_rfl) (by kernel_rfl) (fun _ _ _ h => h) (Or.inl ⟨by rfl, fun w _ => by go_simp⟩) hHeld ?_
  simp only [Act.put, List.setIfInBounds_toArray, List.set_cons_zero, List.set_cons_succ]
  refine wpAnyH_take (i := 3) (oi := ⟨some 12, .fieldAddr 86 (.tmp 11) 0, _, _, _, none⟩) (v := .pointer (some ⟨B, 0, none⟩)) rfl (by kernel_rfl) (by kernel_rfl) (by kernel_rfl) (fun _ _ _ h => h) (Or.inl ⟨by rfl, fun w _ => by go_simp⟩) hHeld ?_
  simp only [Act.put, List.setIfInBounds_toArray, List.set_cons_zero, List.set_cons_succ]
  refine wpAnyH_take (i := 5) (oi := ⟨some 14, .fieldAddr 149 (.tmp 1) 0, _, _, _, none⟩) (v := .pointer (some ⟨g, 0, none⟩)) rfl (by kernel_rfl) (by kernel_rfl) (by kernel_rfl) (fun _ _ _ h => h) (Or.inl ⟨by rfl, fun w _ => by go_simp⟩) hHeld ?_
  simp only [Act.put, List.setIfInBounds_toArray, List.set_cons_zero, List.set_cons_succ]
  refine wpAnyH_take (i := 6) (oi := ⟨some 15, .load 22 (.tmp 14), _, _, _, none⟩) (v := .int .u32 ca) rfl (by kernel_rfl) (by kernel_rfl) (by kernel_rfl) (fun _ _ _ h => h) (Or.inl ⟨by rfl, fun w hSw => by have e1 := hSw.2.1; clear hSw; go_simp⟩) hHeld ?_
  simp only [Act.put, List.setIfInBounds_toArray, List.set_cons_zero, List.set_cons_succ]
  refine wpAnyH_take (i := 7) (oi := ⟨some 16, .fieldAddr 149 (.tmp 1) 1, _, _, _, none⟩) (v := .pointer (some ⟨g, 1, none⟩)) rfl (by kernel_rfl) (by kernel_rfl) (by kernel_rfl) (fun _ _ _ h => h) (Or.inl ⟨by rfl, fun w _ => by go_simp⟩) hHeld ?_
  simp only [Act.put, List.setIfInBounds_toArray, List.set_cons_zero, List.set_cons_succ]
  refine wpAnyH_take (i := 8) (oi := ⟨some 17, .load 22 (.tmp 16), _, _, _, none⟩) (v := .int .u32 v) rfl (by kernel_rfl) (by kernel_rfl) (by kernel_rfl) (fun _ _ _ h => h) (Or.inl ⟨by rfl, fun w hSw => by have e1 := hSw.2.2.1; clear hSw; go_simp⟩) hHeld ?_
  simp only [Act.put, List.setIfInBounds_toArray, List.set_cons_zero, List.set_cons_succ]
  refine wpAnyH_take (i := 9) (oi := ⟨some 18, .fieldAddr 149 (.tmp 1) 2, _, _, _, none⟩) (v := .pointer (some ⟨g, 2, none⟩)) rfl (by kernel_rfl) (by kernel_rfl) (by kernel_rfl) (fun _ _ _ h => h) (Or.inl ⟨by rfl, fun w _ => by go_simp⟩) hHeld ?_
  simp only [Act.put, List.setIfInBounds_toArray, List.set_cons_zero, List.set_cons_succ]
  refine wpAnyH_take (i := 10) (oi := ⟨some 19, .load 22 (.tmp 18), _, _, _, none⟩) (v := .int .u32 p) rfl (by kernel_rfl) (by kernel_rfl) (by kernel_rfl) (fun _ _ _ h => h) (Or.inl ⟨by rfl, fun w hSw => by have e1 := hSw.2.2.2; clear hSw; go_simp⟩) hHeld ?_
  simp only [Act.put, List.setIfInBounds_toArray, List.set_cons_zero, List.set_cons_succ]
  refine wpAnyH_ready (rs := [4]) (by kernel_rfl) (by simp) (AllReadyH.cons (o := ⟨some 13, .load 26 (.tmp 12), _, _, _, none⟩) rfl (fun K' hK => ?_) AllReadyH.nil)
  refine wp_load_mid 26 (.tmp 12) rfl B 0 rfl s.c.cells _ (Blk.range h1.bx 0 30) Tryz.underlying26 rfl (cpu_sz s.c) ?_
  refine hK.out _ _ ⟨hG.cell (j := 0) rfl, b1.cell (j := 0) rfl, b1.cell (j := 1) rfl, b1.cell (j := 2) rfl⟩ (fun hHeld => ?_)
  clear hK K'
  try simp only [Act.put, List.setIfInBounds_toArray, List.set_cons_zero, List.set_cons_succ]
  refine wpAnyH_ready (rs := [11]) (by kernel_rfl) (by simp) (AllReadyH.cons (o := ⟨some 20, .call { callee := .value (.func 47), args := #[.tmp 13, .tmp 15, .tmp 17, .tmp 19], argTypes := #[26, 22, 22, 22] }, _, _, _, none⟩) rfl (fun K' hK => ?_) AllReadyH.nil)
  go_simp
  refine (HE.out _).mono ?_
  rintro e w2 ⟨rfl, l2⟩
  replace l2 := Later.trans_ (Below.drew (later0 _)) l2
  replace S1 := S1.trans (St.later _ h1.lt l2)
  replace h1 := h1.later l2
  replace hG := hG.keep l2
  replace b1 := b1.keep l2
  refine hK.out _ _ ⟨hG.cell (j := 0) rfl, b1.cell (j := 0) rfl, b1.cell (j := 1) rfl, b1.cell (j := 2) rfl⟩ (fun hHeld => ?_)
  clear hK K'
  try simp only [Act.put, List.setIfInBounds_toArray, List.set_cons_zero, List.set_cons_succ]
  refine wpAnyH_take (i := 12) (oi := ⟨some 21, .nilCheck (.tmp 9), _, _, _, none⟩) (v := .pointer (some ⟨B, 0, none⟩)) rfl (by kernel_rfl) (by kernel_rfl) (by kernel_rfl) (fun _ _ _ h => h) (Or.inl ⟨by rfl, fun w _ => by go_simp⟩) hHeld ?_
  simp only [Act.put, List.setIfInBounds_toArray, List.set_cons_zero, List.set_cons_succ]
  refine wpAnyH_take (i := 13) (oi := ⟨some 22, .fieldAddr 86 (.tmp 21) 0, _, _, _, none⟩) (v := .pointer (some ⟨B, 0, none⟩)) rfl (by kernel_rfl) (by kernel_rfl) (by kernel_rfl) (fun _ _ _ h => h) (Or.inl ⟨by rfl, fun w _ => by go_simp⟩) hHeld ?_
  simp only [Act.put, List.setIfInBounds_toArray, List.set_cons_zero, List.set_cons_succ]
  refine wpAnyH_ready (rs := [14]) (by kernel_rfl) (by simp) (AllReadyH.cons (o := ⟨none, .store 26 (.tmp 22) (.tmp 20), _, _, _, none⟩) rfl (fun K' hK => ?_) AllReadyH.nil)
  refine wp_store_at 26 (.tmp 22) (.tmp 20) rfl B 0 86 s.cells (Cpu.enter s.c ca v p).cells rfl rfl h1.bx (cpu_sz _) (show 0 + 30 ≤ 108 from by decide) (cpu_one _) ?_
  intro w3 b3 o3
  rw [take_cpu] at b3
  obtain ⟨h3, S3⟩ := h1.put (s' := { s with c := Cpu.enter s.c ca v p }) o3 b3 rfl rfl rfl
  replace hG := h1.other S3 hG (by decide) (by decide) (by decide)
  replace b1 := h1.other S3 b1 (by decide) (by decide) (by decide)
  replace S3 := S1.trans S3
  have e9 := hG.cell (j := 0) (v := .pointer (some ⟨B, 0, none⟩)) rfl
  have e10 := b1.cell (j := 0) (v := .int .u32 ca) rfl
  have e11 := h3.bx.cell (j := 107) (v := .int .i64 s.tr) rfl
  have f11 := h3.bx.frz 107
  obtain ⟨h8, S8⟩ := h3.set (s' := { s with c := Cpu.enter s.c ca v p, tr := ca }) 107 (.int .i64 ca) rfl rfl rfl rfl
  replace S8 := S3.trans S8
  refine hK.out _ _ ⟨hG.cell (j := 0) rfl, b1.cell (j := 0) rfl, b1.cell (j := 1) rfl, b1.cell (j := 2) rfl⟩ (fun hHeld => ?_)
  clear hK K'
  try simp only [Act.put]
  refine wpAnyH_done (by kernel_rfl) ?_ _
  clear hHeld
  go_wp2
  exact ⟨rfl, _, rfl, _, by simp [results, Tryz.results74], rfl, rfl, h8, S8⟩
end Go.Proofs.YtidhodalnikhlaaGreatDoor
