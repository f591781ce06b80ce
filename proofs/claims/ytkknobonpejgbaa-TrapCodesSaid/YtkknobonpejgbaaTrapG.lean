/-
  PROCESSORS: the reference's Read and Write.
-/
import Derived.Test.YtkknobonpejgbaaTrapF
namespace Go.Proofs.Ytkknobonpejgbaa
open Go.RowKit Go.ChangeShapes Go.WideShapes Go.ChangeAt

/-- A register, a processor, an error. -/
def gotC (a : Int) (c : Cpu) (e : Int) : List Value := .int .u32 a :: (c.cells ++ [.int .i64 e])
theorem got_sz (a : Int) (c : Cpu) (e : Int) : (Try.prog.info? 45).map (·.size) = some (gotC a c e).length := by
  show _ = some 32
  kernel_rfl
theorem got_one (a : Int) (c : Cpu) (e : Int) : ∀ v ∈ gotC a c e, v.oneCell' = true := by
  intro v hv
  unfold gotC at hv
  rcases List.mem_cons.1 hv with rfl | h
  · rfl
  · rcases List.mem_append.1 h with h | h
    · exact cpu_one c v h
    · obtain rfl := List.mem_singleton.1 h
      rfl
theorem got_ret {fn : Func} {p : Tmp} (h : fn.results = #[.cell p 45]) (tmps : Array Value) (w : World) (B : Nat) (a : Int) (c : Cpu) (e : Int) (hp : tmps.getD p undef = .pointer (some ⟨B, 0, none⟩)) (hb : Blk w B 45 (gotC a c e)) :
    (results fn tmps).run Try.prog w = .ok (.agg (gotC a c e).toArray) w :=
  results_blk h tmps w B 45 _ _ hp hb Try.underlying45 rfl (got_sz _ _ _)
theorem built_c (x : Cpu) : Try.prog.built 45 [(1, .agg x.cells.toArray)] = some (gotC 0 x 0).toArray := by kernel_rfl
theorem built_ce (x : Cpu) (e : Int) : Try.prog.built 45 [(1, .agg x.cells.toArray), (2, .int .i64 e)] = some (gotC 0 x e).toArray := by kernel_rfl
theorem run_c (x : Cpu) (w : World) : (Instr.build 45 #[(1, .agg x.cells.toArray)]).run Try.prog w = .ok (.agg (gotC 0 x 0).toArray) w := run_build w _ _ _ (built_c x)
theorem run_ce (x : Cpu) (e : Int) (w : World) : (Instr.build 45 #[(1, .agg x.cells.toArray), (2, .int .i64 e)]).run Try.prog w = .ok (.agg (gotC 0 x e).toArray) w := run_build w _ _ _ (built_ce x e)
theorem wpList_bld {ops : Array Oper} {rest : List Oper} {o : Oper} {a : Act} {w : World} {Q : Exit → Act → World → Prop} (hg : o.guard = none) (t : TypeId) (fs : Array (Nat × Operand)) (vs : Array (Nat × Value)) (C : Array Value) (ho : o.op = .build t fs)
    (hv : fs.toList.map (fun x => (x.1, a.eval x.2)) = vs.toList) (hr : (Instr.build t vs).run Try.prog w = .ok (.agg C) w)
    (hK : wpList Try.prog ops Q rest (a.put o.dst (.agg C)) w) : wpList Try.prog ops Q (o :: rest) a w := by
  refine wpList_plain hg fun K' hK' => ?_
  have e : fs.map (fun x => (x.1, a.eval x.2)) = vs := by
    apply Array.toList_inj.1; rw [Array.toList_map]; exact hv
  unfold Oper.wp execOp
  simp only [ho, e, Sem.run_bind, hr, Sem.run_pure, Result.andThen_ok]
  exact hK' _ _ hK
set_option maxRecDepth 100000 in
theorem rread_any (x : Cpu) (n p : Int) (w : World) (hp : Tm.isE p) : Calls Try.prog 25 #[.agg x.cells.toArray, .int .i64 n, .int .u32 p] w fun e w' => e = .returned (.agg (gotC (x.ctl n p) zC (errR n)).toArray) ∧ Later w w' := by
  have b4 := (Blk.new w 26 x.cells.toArray x.cells rfl).alloc (.cells (gotC 0 zC 0).toArray 45)
  have b8 := Blk.new' (w.alloc (.cells x.cells.toArray 26)) (w.heap.size + 1) 45 (gotC 0 zC 0).toArray (gotC 0 zC 0) (by simp) rfl
  have lw := (later1 w (.cells x.cells.toArray 26)).alloc (by simp) (.cells (gotC 0 zC 0).toArray 45)
  have hr : p.tmod 32 = p % 32 := Int.tmod_eq_emod_of_nonneg hp.1
  by_cases h : 0 ≤ n ∧ n < 9
  · rcases (show n = 0 ∨ n = 1 ∨ n = 2 ∨ n = 3 ∨ n = 4 ∨ n = 5 ∨ n = 6 ∨ n = 7 ∨ n = 8 by omega) with rfl | rfl | rfl | rfl | rfl | rfl | rfl | rfl | rfl
    · clear h
      go_enter Try.func25, Try.ntmps25
      go_upto_region 1 with fail
      obtain ⟨u0, hu⟩ : ∃ u0, (w.alloc (.cells x.cells.toArray 26)).alloc (.cells (gotC 0 zC 0).toArray 45) = u0 := ⟨_, rfl⟩
      rw [hu] at b4 b8 lw
      have hu2 : (w.alloc (.cells x.cells.toArray 26)).alloc (.cells #[.int .u32 0, .int .u32 0, .int .u32 0, .int .u32 0, .int .u32 0, .int .u32 0, .int .u32 0, .int .u32 0, .int .u32 0, .int .u32 0, .int .u32 0, .int .u32 0, .int .u32 0, .int .u32 0, .int .u32 0, .int .u32 0, .int .u32 0, .int .u32 0, .int .u32 0, .int .u32 0, .int .u32 0, .int .u32 0, .int .u32 0, .int .u32 0, .int .u32 0, .int .u32 0, .int .u32 0, .bool false, .bool false, .bool false, .int .i64 0, .int .i64 0] 45) = u0 := hu
      rw [hu2]
      clear hu hu2
      have k := b4.cell (j := 17) (v := .int .u32 x.c0) rfl
      go_wp2_with ((with_reducible refine wpList_store_abs (o := ⟨none, .store 45 (.tmp 6) (.tmp 23), _, _, _, none⟩) rfl _ _ _ rfl (w.heap.size + 1) 45 (gotC 0 zC 0) (gotC x.c0 zC 0) ?_ ?_ ?_ ?_ ?_ ?_ ?_); rfl; rfl; exact b8; exact got_sz _ _ _; rfl; exact got_one _ _ _; intro w9 b9 o9)
      exact bodyPost_ret (got_ret Try.results25 _ _ (w.heap.size + 1) x.c0 zC 0 rfl b9) rfl ⟨rfl, Below.only lw o9 (by omega)⟩
    · clear h
      go_enter Try.func25, Try.ntmps25
      go_upto_region 1 with fail
      obtain ⟨u0, hu⟩ : ∃ u0, (w.alloc (.cells x.cells.toArray 26)).alloc (.cells (gotC 0 zC 0).toArray 45) = u0 := ⟨_, rfl⟩
      rw [hu] at b4 b8 lw
      have hu2 : (w.alloc (.cells x.cells.toArray 26)).alloc (.cells #[.int .u32 0, .int .u32 0, .int .u32 0, .int .u32 0, .int .u32 0, .int .u32 0, .int .u32 0, .int .u32 0, .int .u32 0, .int .u32 0, .int .u32 0, .int .u32 0, .int .u32 0, .int .u32 0, .int .u32 0, .int .u32 0, .int .u32 0, .int .u32 0, .int .u32 0, .int .u32 0, .int .u32 0, .int .u32 0, .int .u32 0, .int .u32 0, .int .u32 0, .int .u32 0, .int .u32 0, .bool false, .bool false, .bool false, .int .i64 0, .int .i64 0] 45) = u0 := hu
      rw [hu2]
      clear hu hu2
      have k := b4.cell (j := 18) (v := .int .u32 x.c1) rfl
      go_wp2_with ((with_reducible refine wpList_store_abs (o := ⟨none, .store 45 (.tmp 6) (.tmp 23), _, _, _, none⟩) rfl _ _ _ rfl (w.heap.size + 1) 45 (gotC 0 zC 0) (gotC x.c1 zC 0) ?_ ?_ ?_ ?_ ?_ ?_ ?_); rfl; rfl; exact b8; exact got_sz _ _ _; rfl; exact got_one _ _ _; intro w9 b9 o9)
      exact bodyPost_ret (got_ret Try.results25 _ _ (w.heap.size + 1) x.c1 zC 0 rfl b9) rfl ⟨rfl, Below.only lw o9 (by omega)⟩
    · clear h
      go_enter Try.func25, Try.ntmps25
      go_upto_region 1 with fail
      obtain ⟨u0, hu⟩ : ∃ u0, (w.alloc (.cells x.cells.toArray 26)).alloc (.cells (gotC 0 zC 0).toArray 45) = u0 := ⟨_, rfl⟩
      rw [hu] at b4 b8 lw
      have hu2 : (w.alloc (.cells x.cells.toArray 26)).alloc (.cells #[.int .u32 0, .int .u32 0, .int .u32 0, .int .u32 0, .int .u32 0, .int .u32 0, .int .u32 0, .int .u32 0, .int .u32 0, .int .u32 0, .int .u32 0, .int .u32 0, .int .u32 0, .int .u32 0, .int .u32 0, .int .u32 0, .int .u32 0, .int .u32 0, .int .u32 0, .int .u32 0, .int .u32 0, .int .u32 0, .int .u32 0, .int .u32 0, .int .u32 0, .int .u32 0, .int .u32 0, .bool false, .bool false, .bool false, .int .i64 0, .int .i64 0] 45) = u0 := hu
      rw [hu2]
      clear hu hu2
      have k := b4.cell (j := 19) (v := .int .u32 x.c2) rfl
      go_wp2_with ((with_reducible refine wpList_store_abs (o := ⟨none, .store 45 (.tmp 6) (.tmp 23), _, _, _, none⟩) rfl _ _ _ rfl (w.heap.size + 1) 45 (gotC 0 zC 0) (gotC x.c2 zC 0) ?_ ?_ ?_ ?_ ?_ ?_ ?_); rfl; rfl; exact b8; exact got_sz _ _ _; rfl; exact got_one _ _ _; intro w9 b9 o9)
      exact bodyPost_ret (got_ret Try.results25 _ _ (w.heap.size + 1) x.c2 zC 0 rfl b9) rfl ⟨rfl, Below.only lw o9 (by omega)⟩
    · clear h
      go_enter Try.func25, Try.ntmps25
      go_upto_region 1 with fail
      obtain ⟨u0, hu⟩ : ∃ u0, (w.alloc (.cells x.cells.toArray 26)).alloc (.cells (gotC 0 zC 0).toArray 45) = u0 := ⟨_, rfl⟩
      rw [hu] at b4 b8 lw
      have hu2 : (w.alloc (.cells x.cells.toArray 26)).alloc (.cells #[.int .u32 0, .int .u32 0, .int .u32 0, .int .u32 0, .int .u32 0, .int .u32 0, .int .u32 0, .int .u32 0, .int .u32 0, .int .u32 0, .int .u32 0, .int .u32 0, .int .u32 0, .int .u32 0, .int .u32 0, .int .u32 0, .int .u32 0, .int .u32 0, .int .u32 0, .int .u32 0, .int .u32 0, .int .u32 0, .int .u32 0, .int .u32 0, .int .u32 0, .int .u32 0, .int .u32 0, .bool false, .bool false, .bool false, .int .i64 0, .int .i64 0] 45) = u0 := hu
      rw [hu2]
      clear hu hu2
      have k := b4.cell (j := 20) (v := .int .u32 x.c3) rfl
      go_wp2_with ((with_reducible refine wpList_store_abs (o := ⟨none, .store 45 (.tmp 6) (.tmp 23), _, _, _, none⟩) rfl _ _ _ rfl (w.heap.size + 1) 45 (gotC 0 zC 0) (gotC x.c3 zC 0) ?_ ?_ ?_ ?_ ?_ ?_ ?_); rfl; rfl; exact b8; exact got_sz _ _ _; rfl; exact got_one _ _ _; intro w9 b9 o9)
      exact bodyPost_ret (got_ret Try.results25 _ _ (w.heap.size + 1) x.c3 zC 0 rfl b9) rfl ⟨rfl, Below.only lw o9 (by omega)⟩
    · clear h
      go_enter Try.func25, Try.ntmps25
      go_upto_region 1 with fail
      obtain ⟨u0, hu⟩ : ∃ u0, (w.alloc (.cells x.cells.toArray 26)).alloc (.cells (gotC 0 zC 0).toArray 45) = u0 := ⟨_, rfl⟩
      rw [hu] at b4 b8 lw
      have hu2 : (w.alloc (.cells x.cells.toArray 26)).alloc (.cells #[.int .u32 0, .int .u32 0, .int .u32 0, .int .u32 0, .int .u32 0, .int .u32 0, .int .u32 0, .int .u32 0, .int .u32 0, .int .u32 0, .int .u32 0, .int .u32 0, .int .u32 0, .int .u32 0, .int .u32 0, .int .u32 0, .int .u32 0, .int .u32 0, .int .u32 0, .int .u32 0, .int .u32 0, .int .u32 0, .int .u32 0, .int .u32 0, .int .u32 0, .int .u32 0, .int .u32 0, .bool false, .bool false, .bool false, .int .i64 0, .int .i64 0] 45) = u0 := hu
      rw [hu2]
      clear hu hu2
      have k := b4.cell (j := 21) (v := .int .u32 x.c4) rfl
      go_wp2_with ((with_reducible refine wpList_store_abs (o := ⟨none, .store 45 (.tmp 6) (.tmp 23), _, _, _, none⟩) rfl _ _ _ rfl (w.heap.size + 1) 45 (gotC 0 zC 0) (gotC x.c4 zC 0) ?_ ?_ ?_ ?_ ?_ ?_ ?_); rfl; rfl; exact b8; exact got_sz _ _ _; rfl; exact got_one _ _ _; intro w9 b9 o9)
      exact bodyPost_ret (got_ret Try.results25 _ _ (w.heap.size + 1) x.c4 zC 0 rfl b9) rfl ⟨rfl, Below.only lw o9 (by omega)⟩
    · clear h
      go_enter Try.func25, Try.ntmps25
      go_upto_region 1 with fail
      obtain ⟨u0, hu⟩ : ∃ u0, (w.alloc (.cells x.cells.toArray 26)).alloc (.cells (gotC 0 zC 0).toArray 45) = u0 := ⟨_, rfl⟩
      rw [hu] at b4 b8 lw
      have hu2 : (w.alloc (.cells x.cells.toArray 26)).alloc (.cells #[.int .u32 0, .int .u32 0, .int .u32 0, .int .u32 0, .int .u32 0, .int .u32 0, .int .u32 0, .int .u32 0, .int .u32 0, .int .u32 0, .int .u32 0, .int .u32 0, .int .u32 0, .int .u32 0, .int .u32 0, .int .u32 0, .int .u32 0, .int .u32 0, .int .u32 0, .int .u32 0, .int .u32 0, .int .u32 0, .int .u32 0, .int .u32 0, .int .u32 0, .int .u32 0, .int .u32 0, .bool false, .bool false, .bool false, .int .i64 0, .int .i64 0] 45) = u0 := hu
      rw [hu2]
      clear hu hu2
      have k := b4.cell (j := 22) (v := .int .u32 x.c5) rfl
      go_wp2_with ((with_reducible refine wpList_store_abs (o := ⟨none, .store 45 (.tmp 6) (.tmp 23), _, _, _, none⟩) rfl _ _ _ rfl (w.heap.size + 1) 45 (gotC 0 zC 0) (gotC x.c5 zC 0) ?_ ?_ ?_ ?_ ?_ ?_ ?_); rfl; rfl; exact b8; exact got_sz _ _ _; rfl; exact got_one _ _ _; intro w9 b9 o9)
      exact bodyPost_ret (got_ret Try.results25 _ _ (w.heap.size + 1) x.c5 zC 0 rfl b9) rfl ⟨rfl, Below.only lw o9 (by omega)⟩
    · clear h
      go_enter Try.func25, Try.ntmps25
      go_upto_region 1 with fail
      obtain ⟨u0, hu⟩ : ∃ u0, (w.alloc (.cells x.cells.toArray 26)).alloc (.cells (gotC 0 zC 0).toArray 45) = u0 := ⟨_, rfl⟩
      rw [hu] at b4 b8 lw
      have hu2 : (w.alloc (.cells x.cells.toArray 26)).alloc (.cells #[.int .u32 0, .int .u32 0, .int .u32 0, .int .u32 0, .int .u32 0, .int .u32 0, .int .u32 0, .int .u32 0, .int .u32 0, .int .u32 0, .int .u32 0, .int .u32 0, .int .u32 0, .int .u32 0, .int .u32 0, .int .u32 0, .int .u32 0, .int .u32 0, .int .u32 0, .int .u32 0, .int .u32 0, .int .u32 0, .int .u32 0, .int .u32 0, .int .u32 0, .int .u32 0, .int .u32 0, .bool false, .bool false, .bool false, .int .i64 0, .int .i64 0] 45) = u0 := hu
      rw [hu2]
      clear hu hu2
      have k := b4.cell (j := 23) (v := .int .u32 x.c6) rfl
      go_wp2_with ((with_reducible refine wpList_store_abs (o := ⟨none, .store 45 (.tmp 6) (.tmp 23), _, _, _, none⟩) rfl _ _ _ rfl (w.heap.size + 1) 45 (gotC 0 zC 0) (gotC x.c6 zC 0) ?_ ?_ ?_ ?_ ?_ ?_ ?_); rfl; rfl; exact b8; exact got_sz _ _ _; rfl; exact got_one _ _ _; intro w9 b9 o9)
      exact bodyPost_ret (got_ret Try.results25 _ _ (w.heap.size + 1) x.c6 zC 0 rfl b9) rfl ⟨rfl, Below.only lw o9 (by omega)⟩
    · clear h
      go_enter Try.func25, Try.ntmps25
      go_upto_region 1 with fail
      obtain ⟨u0, hu⟩ : ∃ u0, (w.alloc (.cells x.cells.toArray 26)).alloc (.cells (gotC 0 zC 0).toArray 45) = u0 := ⟨_, rfl⟩
      rw [hu] at b4 b8 lw
      have hu2 : (w.alloc (.cells x.cells.toArray 26)).alloc (.cells #[.int .u32 0, .int .u32 0, .int .u32 0, .int .u32 0, .int .u32 0, .int .u32 0, .int .u32 0, .int .u32 0, .int .u32 0, .int .u32 0, .int .u32 0, .int .u32 0, .int .u32 0, .int .u32 0, .int .u32 0, .int .u32 0, .int .u32 0, .int .u32 0, .int .u32 0, .int .u32 0, .int .u32 0, .int .u32 0, .int .u32 0, .int .u32 0, .int .u32 0, .int .u32 0, .int .u32 0, .bool false, .bool false, .bool false, .int .i64 0, .int .i64 0] 45) = u0 := hu
      rw [hu2]
      clear hu hu2
      go_wp2_with ((with_reducible refine wpList_store_abs (o := ⟨none, .store 45 (.tmp 6) (.tmp 18), _, _, _, none⟩) rfl _ _ _ rfl (w.heap.size + 1) 45 (gotC 0 zC 0) (gotC (p % 32) zC 0) ?_ ?_ ?_ ?_ ?_ ?_ ?_); rfl; rfl; exact b8; exact got_sz _ _ _; rfl; exact got_one _ _ _; intro w9 b9 o9)
      exact bodyPost_ret (got_ret Try.results25 _ _ (w.heap.size + 1) (p % 32) zC 0 rfl b9) rfl ⟨rfl, Below.only lw o9 (by omega)⟩
    · clear h
      go_enter Try.func25, Try.ntmps25
      go_upto_region 1 with fail
      obtain ⟨u0, hu⟩ : ∃ u0, (w.alloc (.cells x.cells.toArray 26)).alloc (.cells (gotC 0 zC 0).toArray 45) = u0 := ⟨_, rfl⟩
      rw [hu] at b4 b8 lw
      have hu2 : (w.alloc (.cells x.cells.toArray 26)).alloc (.cells #[.int .u32 0, .int .u32 0, .int .u32 0, .int .u32 0, .int .u32 0, .int .u32 0, .int .u32 0, .int .u32 0, .int .u32 0, .int .u32 0, .int .u32 0, .int .u32 0, .int .u32 0, .int .u32 0, .int .u32 0, .int .u32 0, .int .u32 0, .int .u32 0, .int .u32 0, .int .u32 0, .int .u32 0, .int .u32 0, .int .u32 0, .int .u32 0, .int .u32 0, .int .u32 0, .int .u32 0, .bool false, .bool false, .bool false, .int .i64 0, .int .i64 0] 45) = u0 := hu
      rw [hu2]
      clear hu hu2
      have k := b4.cell (j := 25) (v := .int .u32 x.c8) rfl
      go_wp2_with ((with_reducible refine wpList_store_abs (o := ⟨none, .store 45 (.tmp 6) (.tmp 23), _, _, _, none⟩) rfl _ _ _ rfl (w.heap.size + 1) 45 (gotC 0 zC 0) (gotC x.c8 zC 0) ?_ ?_ ?_ ?_ ?_ ?_ ?_); rfl; rfl; exact b8; exact got_sz _ _ _; rfl; exact got_one _ _ _; intro w9 b9 o9)
      exact bodyPost_ret (got_ret Try.results25 _ _ (w.heap.size + 1) x.c8 zC 0 rfl b9) rfl ⟨rfl, Below.only lw o9 (by omega)⟩
  · rw [(ctl_out (x := x) (p := p) h).1, (ctl_out (x := x) (p := p) h).2]
    by_cases h2 : n < 0
    · clear h
      go_enter Try.func25, Try.ntmps25
      go_upto_region 1 with fail
      obtain ⟨u0, hu⟩ : ∃ u0, (w.alloc (.cells x.cells.toArray 26)).alloc (.cells (gotC 0 zC 0).toArray 45) = u0 := ⟨_, rfl⟩
      rw [hu] at b4 b8 lw
      have hu2 : (w.alloc (.cells x.cells.toArray 26)).alloc (.cells #[.int .u32 0, .int .u32 0, .int .u32 0, .int .u32 0, .int .u32 0, .int .u32 0, .int .u32 0, .int .u32 0, .int .u32 0, .int .u32 0, .int .u32 0, .int .u32 0, .int .u32 0, .int .u32 0, .int .u32 0, .int .u32 0, .int .u32 0, .int .u32 0, .int .u32 0, .int .u32 0, .int .u32 0, .int .u32 0, .int .u32 0, .int .u32 0, .int .u32 0, .int .u32 0, .int .u32 0, .bool false, .bool false, .bool false, .int .i64 0, .int .i64 0] 45) = u0 := hu
      rw [hu2]
      clear hu hu2
      go_wp2_with ((with_reducible refine wpList_store_abs (o := ⟨none, .store 45 (.tmp 6) (.tmp 13), _, _, _, none⟩) rfl _ _ _ rfl (w.heap.size + 1) 45 (gotC 0 zC 0) (gotC 0 zC 1) ?_ ?_ ?_ ?_ ?_ ?_ ?_); rfl; rfl; exact b8; exact got_sz _ _ _; rfl; exact got_one _ _ _; intro w9 b9 o9)
      exact bodyPost_ret (got_ret Try.results25 _ _ (w.heap.size + 1) 0 zC 1 rfl b9) rfl ⟨rfl, Below.only lw o9 (by omega)⟩
    · have h3 : 8 < n := by omega
      clear h
      go_enter Try.func25, Try.ntmps25
      go_upto_region 1 with fail
      obtain ⟨u0, hu⟩ : ∃ u0, (w.alloc (.cells x.cells.toArray 26)).alloc (.cells (gotC 0 zC 0).toArray 45) = u0 := ⟨_, rfl⟩
      rw [hu] at b4 b8 lw
      have hu2 : (w.alloc (.cells x.cells.toArray 26)).alloc (.cells #[.int .u32 0, .int .u32 0, .int .u32 0, .int .u32 0, .int .u32 0, .int .u32 0, .int .u32 0, .int .u32 0, .int .u32 0, .int .u32 0, .int .u32 0, .int .u32 0, .int .u32 0, .int .u32 0, .int .u32 0, .int .u32 0, .int .u32 0, .int .u32 0, .int .u32 0, .int .u32 0, .int .u32 0, .int .u32 0, .int .u32 0, .int .u32 0, .int .u32 0, .int .u32 0, .int .u32 0, .bool false, .bool false, .bool false, .int .i64 0, .int .i64 0] 45) = u0 := hu
      rw [hu2]
      clear hu hu2
      go_wp2_with ((with_reducible refine wpList_store_abs (o := ⟨none, .store 45 (.tmp 6) (.tmp 13), _, _, _, none⟩) rfl _ _ _ rfl (w.heap.size + 1) 45 (gotC 0 zC 0) (gotC 0 zC 1) ?_ ?_ ?_ ?_ ?_ ?_ ?_); rfl; rfl; exact b8; exact got_sz _ _ _; rfl; exact got_one _ _ _; intro w9 b9 o9)
      exact bodyPost_ret (got_ret Try.results25 _ _ (w.heap.size + 1) 0 zC 1 rfl b9) rfl ⟨rfl, Below.only lw o9 (by omega)⟩
set_option maxRecDepth 100000 in
set_option maxHeartbeats 4000000 in
theorem rwrite_any (x : Cpu) (n v : Int) (w : World) (hv : Tm.isE v) : Calls Try.prog 26 #[.agg x.cells.toArray, .int .i64 n, .int .u32 v] w fun e w' => e = .returned (.agg (gotC 0 (x.put n v) (errW n)).toArray) ∧ Later w w' := by
  have b4 := (Blk.new w 26 x.cells.toArray x.cells rfl).alloc (.cells (gotC 0 zC 0).toArray 45)
  have b8 := Blk.new' (w.alloc (.cells x.cells.toArray 26)) (w.heap.size + 1) 45 (gotC 0 zC 0).toArray (gotC 0 zC 0) (by simp) rfl
  have lw := (later1 w (.cells x.cells.toArray 26)).alloc (by simp) (.cells (gotC 0 zC 0).toArray 45)
  have hr : v.tmod 8 = v % 8 := Int.tmod_eq_emod_of_nonneg hv.1
  by_cases h : 0 ≤ n ∧ n < 7
  · rcases (show n = 0 ∨ n = 1 ∨ n = 2 ∨ n = 3 ∨ n = 4 ∨ n = 5 ∨ n = 6 by omega) with rfl | rfl | rfl | rfl | rfl | rfl | rfl
    · clear h
      go_enter Try.func26, Try.ntmps26
      go_upto_region 1 with fail
      obtain ⟨u0, hu⟩ : ∃ u0, (w.alloc (.cells x.cells.toArray 26)).alloc (.cells (gotC 0 zC 0).toArray 45) = u0 := ⟨_, rfl⟩
      rw [hu] at b4 b8 lw
      have hu2 : (w.alloc (.cells x.cells.toArray 26)).alloc (.cells #[.int .u32 0, .int .u32 0, .int .u32 0, .int .u32 0, .int .u32 0, .int .u32 0, .int .u32 0, .int .u32 0, .int .u32 0, .int .u32 0, .int .u32 0, .int .u32 0, .int .u32 0, .int .u32 0, .int .u32 0, .int .u32 0, .int .u32 0, .int .u32 0, .int .u32 0, .int .u32 0, .int .u32 0, .int .u32 0, .int .u32 0, .int .u32 0, .int .u32 0, .int .u32 0, .int .u32 0, .bool false, .bool false, .bool false, .int .i64 0, .int .i64 0] 45) = u0 := hu
      rw [hu2]
      have hz : u0.heap.size = w.heap.size + 1 + 1 := by rw [← hu]; simp
      clear hu hu2
      go_upto_region 7 with (first | ((with_reducible refine wpList_load_blk (o := ⟨some 16, .load 26 (.tmp 3), _, _, _, none⟩) rfl _ _ rfl w.heap.size 26 x.cells _ ?_ ?_ Try.underlying26 rfl (cpu_sz _) ?_); rfl; exact b4) | ((with_reducible refine wpList_store_abs (o := ⟨none, .store 26 (.tmp 7) (.tmp 16), _, _, _, none⟩) rfl _ _ _ rfl (w.heap.size + 1 + 1) 26 zC.cells x.cells ?_ ?_ ?_ ?_ ?_ ?_ ?_); rfl; rfl; exact (Blk.new' _ _ _ _ _ hz rfl); exact cpu_sz _; rfl; exact cpu_one _; intro w1 b7 o1; replace b8 := (b8.alloc (.cells zC.cells.toArray 26)).only o1 (by omega); replace lw := Below.only (lw.alloc lw.size (.cells zC.cells.toArray 26)) o1 (by omega); have e1 := b7.cell (j := 17) (v := .int .u32 x.c0) rfl; have f1 := b7.frz 17))
      obtain ⟨u2, hu2⟩ : ∃ u2, u2 = (w1.setCell ⟨(w.heap.size + 1 + 1), 17, none⟩ (.int .u32 v)) := ⟨_, rfl⟩
      rw [← hu2]
      have b5 : Blk u2 (w.heap.size + 1 + 1) 26 ({ x with c0 := v } : Cpu).cells := by
        rw [hu2]
        exact (b7.set 17 (.int .u32 v))
      replace b8 : Blk u2 (w.heap.size + 1) 45 (gotC 0 zC 0) := by
        rw [hu2]
        exact (b8.set_other ⟨(w.heap.size + 1 + 1), 17, none⟩ (.int .u32 v) (by first | (simp; done) | (simp; omega)))
      replace lw : Later w u2 := by
        rw [hu2]
        exact (lw.setCell (p := ⟨(w.heap.size + 1 + 1), 17, none⟩) (by first | (simp; done) | (simp; omega)) (.int .u32 v))
      clear hu2 b4 b7 e1 f1 o1
      obtain ⟨Y, hY⟩ : ∃ Y : Cpu, Y = ({ x with c0 := v } : Cpu) := ⟨_, rfl⟩
      have HY := Lib.hid hY
      rw [← hY] at b5
      clear hY
      go_wp2_with (first | ((with_reducible refine wpList_load_blk (o := ⟨some 28, .load 26 (.tmp 7), _, _, _, none⟩) rfl _ _ rfl (w.heap.size + 1 + 1) 26 Y.cells _ ?_ ?_ Try.underlying26 rfl (cpu_sz _) ?_); rfl; exact b5) | ((with_reducible refine wpList_bld (o := ⟨some 29, .build 45 #[(1, .tmp 28)], _, _, _, none⟩) rfl _ #[(1, .tmp 28)] #[(1, .agg Y.cells.toArray)] (gotC 0 Y 0).toArray rfl ?_ (run_c Y _) ?_); rfl) | ((with_reducible refine wpList_store_abs (o := ⟨none, .store 45 (.tmp 6) (.tmp 29), _, _, _, none⟩) rfl _ _ _ rfl (w.heap.size + 1) 45 (gotC 0 zC 0) (gotC 0 Y 0) ?_ ?_ ?_ ?_ ?_ ?_ ?_); rfl; rfl; exact b8; exact got_sz _ _ _; rfl; exact got_one _ _ _; intro w9 b9 o9))
      exact bodyPost_ret (got_ret Try.results26 _ _ (w.heap.size + 1) 0 Y 0 rfl b9) rfl ⟨by rw [HY.out]; rfl, Below.only lw o9 (by omega)⟩
    · clear h
      go_enter Try.func26, Try.ntmps26
      go_upto_region 1 with fail
      obtain ⟨u0, hu⟩ : ∃ u0, (w.alloc (.cells x.cells.toArray 26)).alloc (.cells (gotC 0 zC 0).toArray 45) = u0 := ⟨_, rfl⟩
      rw [hu] at b4 b8 lw
      have hu2 : (w.alloc (.cells x.cells.toArray 26)).alloc (.cells #[.int .u32 0, .int .u32 0, .int .u32 0, .int .u32 0, .int .u32 0, .int .u32 0, .int .u32 0, .int .u32 0, .int .u32 0, .int .u32 0, .int .u32 0, .int .u32 0, .int .u32 0, .int .u32 0, .int .u32 0, .int .u32 0, .int .u32 0, .int .u32 0, .int .u32 0, .int .u32 0, .int .u32 0, .int .u32 0, .int .u32 0, .int .u32 0, .int .u32 0, .int .u32 0, .int .u32 0, .bool false, .bool false, .bool false, .int .i64 0, .int .i64 0] 45) = u0 := hu
      rw [hu2]
      have hz : u0.heap.size = w.heap.size + 1 + 1 := by rw [← hu]; simp
      clear hu hu2
      go_upto_region 7 with (first | ((with_reducible refine wpList_load_blk (o := ⟨some 16, .load 26 (.tmp 3), _, _, _, none⟩) rfl _ _ rfl w.heap.size 26 x.cells _ ?_ ?_ Try.underlying26 rfl (cpu_sz _) ?_); rfl; exact b4) | ((with_reducible refine wpList_store_abs (o := ⟨none, .store 26 (.tmp 7) (.tmp 16), _, _, _, none⟩) rfl _ _ _ rfl (w.heap.size + 1 + 1) 26 zC.cells x.cells ?_ ?_ ?_ ?_ ?_ ?_ ?_); rfl; rfl; exact (Blk.new' _ _ _ _ _ hz rfl); exact cpu_sz _; rfl; exact cpu_one _; intro w1 b7 o1; replace b8 := (b8.alloc (.cells zC.cells.toArray 26)).only o1 (by omega); replace lw := Below.only (lw.alloc lw.size (.cells zC.cells.toArray 26)) o1 (by omega); have e1 := b7.cell (j := 18) (v := .int .u32 x.c1) rfl; have f1 := b7.frz 18))
      obtain ⟨u2, hu2⟩ : ∃ u2, u2 = (w1.setCell ⟨(w.heap.size + 1 + 1), 18, none⟩ (.int .u32 v)) := ⟨_, rfl⟩
      rw [← hu2]
      have b5 : Blk u2 (w.heap.size + 1 + 1) 26 ({ x with c1 := v } : Cpu).cells := by
        rw [hu2]
        exact (b7.set 18 (.int .u32 v))
      replace b8 : Blk u2 (w.heap.size + 1) 45 (gotC 0 zC 0) := by
        rw [hu2]
        exact (b8.set_other ⟨(w.heap.size + 1 + 1), 18, none⟩ (.int .u32 v) (by first | (simp; done) | (simp; omega)))
      replace lw : Later w u2 := by
        rw [hu2]
        exact (lw.setCell (p := ⟨(w.heap.size + 1 + 1), 18, none⟩) (by first | (simp; done) | (simp; omega)) (.int .u32 v))
      clear hu2 b4 b7 e1 f1 o1
      obtain ⟨Y, hY⟩ : ∃ Y : Cpu, Y = ({ x with c1 := v } : Cpu) := ⟨_, rfl⟩
      have HY := Lib.hid hY
      rw [← hY] at b5
      clear hY
      go_wp2_with (first | ((with_reducible refine wpList_load_blk (o := ⟨some 28, .load 26 (.tmp 7), _, _, _, none⟩) rfl _ _ rfl (w.heap.size + 1 + 1) 26 Y.cells _ ?_ ?_ Try.underlying26 rfl (cpu_sz _) ?_); rfl; exact b5) | ((with_reducible refine wpList_bld (o := ⟨some 29, .build 45 #[(1, .tmp 28)], _, _, _, none⟩) rfl _ #[(1, .tmp 28)] #[(1, .agg Y.cells.toArray)] (gotC 0 Y 0).toArray rfl ?_ (run_c Y _) ?_); rfl) | ((with_reducible refine wpList_store_abs (o := ⟨none, .store 45 (.tmp 6) (.tmp 29), _, _, _, none⟩) rfl _ _ _ rfl (w.heap.size + 1) 45 (gotC 0 zC 0) (gotC 0 Y 0) ?_ ?_ ?_ ?_ ?_ ?_ ?_); rfl; rfl; exact b8; exact got_sz _ _ _; rfl; exact got_one _ _ _; intro w9 b9 o9))
      exact bodyPost_ret (got_ret Try.results26 _ _ (w.heap.size + 1) 0 Y 0 rfl b9) rfl ⟨by rw [HY.out]; rfl, Below.only lw o9 (by omega)⟩
    · clear h
      go_enter Try.func26, Try.ntmps26
      go_upto_region 1 with fail
      obtain ⟨u0, hu⟩ : ∃ u0, (w.alloc (.cells x.cells.toArray 26)).alloc (.cells (gotC 0 zC 0).toArray 45) = u0 := ⟨_, rfl⟩
      rw [hu] at b4 b8 lw
      have hu2 : (w.alloc (.cells x.cells.toArray 26)).alloc (.cells #[.int .u32 0, .int .u32 0, .int .u32 0, .int .u32 0, .int .u32 0, .int .u32 0, .int .u32 0, .int .u32 0, .int .u32 0, .int .u32 0, .int .u32 0, .int .u32 0, .int .u32 0, .int .u32 0, .int .u32 0, .int .u32 0, .int .u32 0, .int .u32 0, .int .u32 0, .int .u32 0, .int .u32 0, .int .u32 0, .int .u32 0, .int .u32 0, .int .u32 0, .int .u32 0, .int .u32 0, .bool false, .bool false, .bool false, .int .i64 0, .int .i64 0] 45) = u0 := hu
      rw [hu2]
      have hz : u0.heap.size = w.heap.size + 1 + 1 := by rw [← hu]; simp
      clear hu hu2
      go_upto_region 7 with (first | ((with_reducible refine wpList_load_blk (o := ⟨some 16, .load 26 (.tmp 3), _, _, _, none⟩) rfl _ _ rfl w.heap.size 26 x.cells _ ?_ ?_ Try.underlying26 rfl (cpu_sz _) ?_); rfl; exact b4) | ((with_reducible refine wpList_store_abs (o := ⟨none, .store 26 (.tmp 7) (.tmp 16), _, _, _, none⟩) rfl _ _ _ rfl (w.heap.size + 1 + 1) 26 zC.cells x.cells ?_ ?_ ?_ ?_ ?_ ?_ ?_); rfl; rfl; exact (Blk.new' _ _ _ _ _ hz rfl); exact cpu_sz _; rfl; exact cpu_one _; intro w1 b7 o1; replace b8 := (b8.alloc (.cells zC.cells.toArray 26)).only o1 (by omega); replace lw := Below.only (lw.alloc lw.size (.cells zC.cells.toArray 26)) o1 (by omega); have e1 := b7.cell (j := 19) (v := .int .u32 x.c2) rfl; have f1 := b7.frz 19))
      obtain ⟨u2, hu2⟩ : ∃ u2, u2 = (w1.setCell ⟨(w.heap.size + 1 + 1), 19, none⟩ (.int .u32 v)) := ⟨_, rfl⟩
      rw [← hu2]
      have b5 : Blk u2 (w.heap.size + 1 + 1) 26 ({ x with c2 := v } : Cpu).cells := by
        rw [hu2]
        exact (b7.set 19 (.int .u32 v))
      replace b8 : Blk u2 (w.heap.size + 1) 45 (gotC 0 zC 0) := by
        rw [hu2]
        exact (b8.set_other ⟨(w.heap.size + 1 + 1), 19, none⟩ (.int .u32 v) (by first | (simp; done) | (simp; omega)))
      replace lw : Later w u2 := by
        rw [hu2]
        exact (lw.setCell (p := ⟨(w.heap.size + 1 + 1), 19, none⟩) (by first | (simp; done) | (simp; omega)) (.int .u32 v))
      clear hu2 b4 b7 e1 f1 o1
      obtain ⟨Y, hY⟩ : ∃ Y : Cpu, Y = ({ x with c2 := v } : Cpu) := ⟨_, rfl⟩
      have HY := Lib.hid hY
      rw [← hY] at b5
      clear hY
      go_wp2_with (first | ((with_reducible refine wpList_load_blk (o := ⟨some 28, .load 26 (.tmp 7), _, _, _, none⟩) rfl _ _ rfl (w.heap.size + 1 + 1) 26 Y.cells _ ?_ ?_ Try.underlying26 rfl (cpu_sz _) ?_); rfl; exact b5) | ((with_reducible refine wpList_bld (o := ⟨some 29, .build 45 #[(1, .tmp 28)], _, _, _, none⟩) rfl _ #[(1, .tmp 28)] #[(1, .agg Y.cells.toArray)] (gotC 0 Y 0).toArray rfl ?_ (run_c Y _) ?_); rfl) | ((with_reducible refine wpList_store_abs (o := ⟨none, .store 45 (.tmp 6) (.tmp 29), _, _, _, none⟩) rfl _ _ _ rfl (w.heap.size + 1) 45 (gotC 0 zC 0) (gotC 0 Y 0) ?_ ?_ ?_ ?_ ?_ ?_ ?_); rfl; rfl; exact b8; exact got_sz _ _ _; rfl; exact got_one _ _ _; intro w9 b9 o9))
      exact bodyPost_ret (got_ret Try.results26 _ _ (w.heap.size + 1) 0 Y 0 rfl b9) rfl ⟨by rw [HY.out]; rfl, Below.only lw o9 (by omega)⟩
    · clear h
      go_enter Try.func26, Try.ntmps26
      go_upto_region 1 with fail
      obtain ⟨u0, hu⟩ : ∃ u0, (w.alloc (.cells x.cells.toArray 26)).alloc (.cells (gotC 0 zC 0).toArray 45) = u0 := ⟨_, rfl⟩
      rw [hu] at b4 b8 lw
      have hu2 : (w.alloc (.cells x.cells.toArray 26)).alloc (.cells #[.int .u32 0, .int .u32 0, .int .u32 0, .int .u32 0, .int .u32 0, .int .u32 0, .int .u32 0, .int .u32 0, .int .u32 0, .int .u32 0, .int .u32 0, .int .u32 0, .int .u32 0, .int .u32 0, .int .u32 0, .int .u32 0, .int .u32 0, .int .u32 0, .int .u32 0, .int .u32 0, .int .u32 0, .int .u32 0, .int .u32 0, .int .u32 0, .int .u32 0, .int .u32 0, .int .u32 0, .bool false, .bool false, .bool false, .int .i64 0, .int .i64 0] 45) = u0 := hu
      rw [hu2]
      have hz : u0.heap.size = w.heap.size + 1 + 1 := by rw [← hu]; simp
      clear hu hu2
      go_upto_region 7 with (first | ((with_reducible refine wpList_load_blk (o := ⟨some 16, .load 26 (.tmp 3), _, _, _, none⟩) rfl _ _ rfl w.heap.size 26 x.cells _ ?_ ?_ Try.underlying26 rfl (cpu_sz _) ?_); rfl; exact b4) | ((with_reducible refine wpList_store_abs (o := ⟨none, .store 26 (.tmp 7) (.tmp 16), _, _, _, none⟩) rfl _ _ _ rfl (w.heap.size + 1 + 1) 26 zC.cells x.cells ?_ ?_ ?_ ?_ ?_ ?_ ?_); rfl; rfl; exact (Blk.new' _ _ _ _ _ hz rfl); exact cpu_sz _; rfl; exact cpu_one _; intro w1 b7 o1; replace b8 := (b8.alloc (.cells zC.cells.toArray 26)).only o1 (by omega); replace lw := Below.only (lw.alloc lw.size (.cells zC.cells.toArray 26)) o1 (by omega); have e1 := b7.cell (j := 20) (v := .int .u32 x.c3) rfl; have f1 := b7.frz 20))
      obtain ⟨u2, hu2⟩ : ∃ u2, u2 = (w1.setCell ⟨(w.heap.size + 1 + 1), 20, none⟩ (.int .u32 v)) := ⟨_, rfl⟩
      rw [← hu2]
      have b5 : Blk u2 (w.heap.size + 1 + 1) 26 ({ x with c3 := v } : Cpu).cells := by
        rw [hu2]
        exact (b7.set 20 (.int .u32 v))
      replace b8 : Blk u2 (w.heap.size + 1) 45 (gotC 0 zC 0) := by
        rw [hu2]
        exact (b8.set_other ⟨(w.heap.size + 1 + 1), 20, none⟩ (.int .u32 v) (by first | (simp; done) | (simp; omega)))
      replace lw : Later w u2 := by
        rw [hu2]
        exact (lw.setCell (p := ⟨(w.heap.size + 1 + 1), 20, none⟩) (by first | (simp; done) | (simp; omega)) (.int .u32 v))
      clear hu2 b4 b7 e1 f1 o1
      obtain ⟨Y, hY⟩ : ∃ Y : Cpu, Y = ({ x with c3 := v } : Cpu) := ⟨_, rfl⟩
      have HY := Lib.hid hY
      rw [← hY] at b5
      clear hY
      go_wp2_with (first | ((with_reducible refine wpList_load_blk (o := ⟨some 28, .load 26 (.tmp 7), _, _, _, none⟩) rfl _ _ rfl (w.heap.size + 1 + 1) 26 Y.cells _ ?_ ?_ Try.underlying26 rfl (cpu_sz _) ?_); rfl; exact b5) | ((with_reducible refine wpList_bld (o := ⟨some 29, .build 45 #[(1, .tmp 28)], _, _, _, none⟩) rfl _ #[(1, .tmp 28)] #[(1, .agg Y.cells.toArray)] (gotC 0 Y 0).toArray rfl ?_ (run_c Y _) ?_); rfl) | ((with_reducible refine wpList_store_abs (o := ⟨none, .store 45 (.tmp 6) (.tmp 29), _, _, _, none⟩) rfl _ _ _ rfl (w.heap.size + 1) 45 (gotC 0 zC 0) (gotC 0 Y 0) ?_ ?_ ?_ ?_ ?_ ?_ ?_); rfl; rfl; exact b8; exact got_sz _ _ _; rfl; exact got_one _ _ _; intro w9 b9 o9))
      exact bodyPost_ret (got_ret Try.results26 _ _ (w.heap.size + 1) 0 Y 0 rfl b9) rfl ⟨by rw [HY.out]; rfl, Below.only lw o9 (by omega)⟩
    · clear h
      go_enter Try.func26, Try.ntmps26
      go_upto_region 1 with fail
      obtain ⟨u0, hu⟩ : ∃ u0, (w.alloc (.cells x.cells.toArray 26)).alloc (.cells (gotC 0 zC 0).toArray 45) = u0 := ⟨_, rfl⟩
      rw [hu] at b4 b8 lw
      have hu2 : (w.alloc (.cells x.cells.toArray 26)).alloc (.cells #[.int .u32 0, .int .u32 0, .int .u32 0, .int .u32 0, .int .u32 0, .int .u32 0, .int .u32 0, .int .u32 0, .int .u32 0, .int .u32 0, .int .u32 0, .int .u32 0, .int .u32 0, .int .u32 0, .int .u32 0, .int .u32 0, .int .u32 0, .int .u32 0, .int .u32 0, .int .u32 0, .int .u32 0, .int .u32 0, .int .u32 0, .int .u32 0, .int .u32 0, .int .u32 0, .int .u32 0, .bool false, .bool false, .bool false, .int .i64 0, .int .i64 0] 45) = u0 := hu
      rw [hu2]
      have hz : u0.heap.size = w.heap.size + 1 + 1 := by rw [← hu]; simp
      clear hu hu2
      go_upto_region 7 with (first | ((with_reducible refine wpList_load_blk (o := ⟨some 16, .load 26 (.tmp 3), _, _, _, none⟩) rfl _ _ rfl w.heap.size 26 x.cells _ ?_ ?_ Try.underlying26 rfl (cpu_sz _) ?_); rfl; exact b4) | ((with_reducible refine wpList_store_abs (o := ⟨none, .store 26 (.tmp 7) (.tmp 16), _, _, _, none⟩) rfl _ _ _ rfl (w.heap.size + 1 + 1) 26 zC.cells x.cells ?_ ?_ ?_ ?_ ?_ ?_ ?_); rfl; rfl; exact (Blk.new' _ _ _ _ _ hz rfl); exact cpu_sz _; rfl; exact cpu_one _; intro w1 b7 o1; replace b8 := (b8.alloc (.cells zC.cells.toArray 26)).only o1 (by omega); replace lw := Below.only (lw.alloc lw.size (.cells zC.cells.toArray 26)) o1 (by omega); have e1 := b7.cell (j := 21) (v := .int .u32 x.c4) rfl; have f1 := b7.frz 21))
      obtain ⟨u2, hu2⟩ : ∃ u2, u2 = (w1.setCell ⟨(w.heap.size + 1 + 1), 21, none⟩ (.int .u32 v)) := ⟨_, rfl⟩
      rw [← hu2]
      have b5 : Blk u2 (w.heap.size + 1 + 1) 26 ({ x with c4 := v } : Cpu).cells := by
        rw [hu2]
        exact (b7.set 21 (.int .u32 v))
      replace b8 : Blk u2 (w.heap.size + 1) 45 (gotC 0 zC 0) := by
        rw [hu2]
        exact (b8.set_other ⟨(w.heap.size + 1 + 1), 21, none⟩ (.int .u32 v) (by first | (simp; done) | (simp; omega)))
      replace lw : Later w u2 := by
        rw [hu2]
        exact (lw.setCell (p := ⟨(w.heap.size + 1 + 1), 21, none⟩) (by first | (simp; done) | (simp; omega)) (.int .u32 v))
      clear hu2 b4 b7 e1 f1 o1
      obtain ⟨Y, hY⟩ : ∃ Y : Cpu, Y = ({ x with c4 := v } : Cpu) := ⟨_, rfl⟩
      have HY := Lib.hid hY
      rw [← hY] at b5
      clear hY
      go_wp2_with (first | ((with_reducible refine wpList_load_blk (o := ⟨some 28, .load 26 (.tmp 7), _, _, _, none⟩) rfl _ _ rfl (w.heap.size + 1 + 1) 26 Y.cells _ ?_ ?_ Try.underlying26 rfl (cpu_sz _) ?_); rfl; exact b5) | ((with_reducible refine wpList_bld (o := ⟨some 29, .build 45 #[(1, .tmp 28)], _, _, _, none⟩) rfl _ #[(1, .tmp 28)] #[(1, .agg Y.cells.toArray)] (gotC 0 Y 0).toArray rfl ?_ (run_c Y _) ?_); rfl) | ((with_reducible refine wpList_store_abs (o := ⟨none, .store 45 (.tmp 6) (.tmp 29), _, _, _, none⟩) rfl _ _ _ rfl (w.heap.size + 1) 45 (gotC 0 zC 0) (gotC 0 Y 0) ?_ ?_ ?_ ?_ ?_ ?_ ?_); rfl; rfl; exact b8; exact got_sz _ _ _; rfl; exact got_one _ _ _; intro w9 b9 o9))
      exact bodyPost_ret (got_ret Try.results26 _ _ (w.heap.size + 1) 0 Y 0 rfl b9) rfl ⟨by rw [HY.out]; rfl, Below.only lw o9 (by omega)⟩
    · clear h
      go_enter Try.func26, Try.ntmps26
      go_upto_region 1 with fail
      obtain ⟨u0, hu⟩ : ∃ u0, (w.alloc (.cells x.cells.toArray 26)).alloc (.cells (gotC 0 zC 0).toArray 45) = u0 := ⟨_, rfl⟩
      rw [hu] at b4 b8 lw
      have hu2 : (w.alloc (.cells x.cells.toArray 26)).alloc (.cells #[.int .u32 0, .int .u32 0, .int .u32 0, .int .u32 0, .int .u32 0, .int .u32 0, .int .u32 0, .int .u32 0, .int .u32 0, .int .u32 0, .int .u32 0, .int .u32 0, .int .u32 0, .int .u32 0, .int .u32 0, .int .u32 0, .int .u32 0, .int .u32 0, .int .u32 0, .int .u32 0, .int .u32 0, .int .u32 0, .int .u32 0, .int .u32 0, .int .u32 0, .int .u32 0, .int .u32 0, .bool false, .bool false, .bool false, .int .i64 0, .int .i64 0] 45) = u0 := hu
      rw [hu2]
      have hz : u0.heap.size = w.heap.size + 1 + 1 := by rw [← hu]; simp
      clear hu hu2
      go_upto_region 7 with (first | ((with_reducible refine wpList_load_blk (o := ⟨some 16, .load 26 (.tmp 3), _, _, _, none⟩) rfl _ _ rfl w.heap.size 26 x.cells _ ?_ ?_ Try.underlying26 rfl (cpu_sz _) ?_); rfl; exact b4) | ((with_reducible refine wpList_store_abs (o := ⟨none, .store 26 (.tmp 7) (.tmp 16), _, _, _, none⟩) rfl _ _ _ rfl (w.heap.size + 1 + 1) 26 zC.cells x.cells ?_ ?_ ?_ ?_ ?_ ?_ ?_); rfl; rfl; exact (Blk.new' _ _ _ _ _ hz rfl); exact cpu_sz _; rfl; exact cpu_one _; intro w1 b7 o1; replace b8 := (b8.alloc (.cells zC.cells.toArray 26)).only o1 (by omega); replace lw := Below.only (lw.alloc lw.size (.cells zC.cells.toArray 26)) o1 (by omega); have e1 := b7.cell (j := 22) (v := .int .u32 x.c5) rfl; have f1 := b7.frz 22))
      obtain ⟨u2, hu2⟩ : ∃ u2, u2 = ((w1.setCell ⟨(w.heap.size + 1 + 1), 22, none⟩ (.int .u32 v)).setCell ⟨(w.heap.size + 1 + 1), 22, none⟩ (.int .u32 (v % 8))) := ⟨_, rfl⟩
      rw [← hu2]
      have b5 : Blk u2 (w.heap.size + 1 + 1) 26 ({ x with c5 := (v % 8) } : Cpu).cells := by
        rw [hu2]
        exact ((b7.set 22 (.int .u32 v)).set 22 (.int .u32 (v % 8)))
      replace b8 : Blk u2 (w.heap.size + 1) 45 (gotC 0 zC 0) := by
        rw [hu2]
        exact ((b8.set_other ⟨(w.heap.size + 1 + 1), 22, none⟩ (.int .u32 v) (by first | (simp; done) | (simp; omega))).set_other ⟨(w.heap.size + 1 + 1), 22, none⟩ (.int .u32 (v % 8)) (by first | (simp; done) | (simp; omega)))
      replace lw : Later w u2 := by
        rw [hu2]
        exact ((lw.setCell (p := ⟨(w.heap.size + 1 + 1), 22, none⟩) (by first | (simp; done) | (simp; omega)) (.int .u32 v)).setCell (p := ⟨(w.heap.size + 1 + 1), 22, none⟩) (by first | (simp; done) | (simp; omega)) (.int .u32 (v % 8)))
      clear hu2 b4 b7 e1 f1 o1
      obtain ⟨Y, hY⟩ : ∃ Y : Cpu, Y = ({ x with c5 := (v % 8) } : Cpu) := ⟨_, rfl⟩
      have HY := Lib.hid hY
      rw [← hY] at b5
      clear hY
      go_wp2_with (first | ((with_reducible refine wpList_load_blk (o := ⟨some 28, .load 26 (.tmp 7), _, _, _, none⟩) rfl _ _ rfl (w.heap.size + 1 + 1) 26 Y.cells _ ?_ ?_ Try.underlying26 rfl (cpu_sz _) ?_); rfl; exact b5) | ((with_reducible refine wpList_bld (o := ⟨some 29, .build 45 #[(1, .tmp 28)], _, _, _, none⟩) rfl _ #[(1, .tmp 28)] #[(1, .agg Y.cells.toArray)] (gotC 0 Y 0).toArray rfl ?_ (run_c Y _) ?_); rfl) | ((with_reducible refine wpList_store_abs (o := ⟨none, .store 45 (.tmp 6) (.tmp 29), _, _, _, none⟩) rfl _ _ _ rfl (w.heap.size + 1) 45 (gotC 0 zC 0) (gotC 0 Y 0) ?_ ?_ ?_ ?_ ?_ ?_ ?_); rfl; rfl; exact b8; exact got_sz _ _ _; rfl; exact got_one _ _ _; intro w9 b9 o9))
      exact bodyPost_ret (got_ret Try.results26 _ _ (w.heap.size + 1) 0 Y 0 rfl b9) rfl ⟨by rw [HY.out]; rfl, Below.only lw o9 (by omega)⟩
    · clear h
      go_enter Try.func26, Try.ntmps26
      go_upto_region 1 with fail
      obtain ⟨u0, hu⟩ : ∃ u0, (w.alloc (.cells x.cells.toArray 26)).alloc (.cells (gotC 0 zC 0).toArray 45) = u0 := ⟨_, rfl⟩
      rw [hu] at b4 b8 lw
      have hu2 : (w.alloc (.cells x.cells.toArray 26)).alloc (.cells #[.int .u32 0, .int .u32 0, .int .u32 0, .int .u32 0, .int .u32 0, .int .u32 0, .int .u32 0, .int .u32 0, .int .u32 0, .int .u32 0, .int .u32 0, .int .u32 0, .int .u32 0, .int .u32 0, .int .u32 0, .int .u32 0, .int .u32 0, .int .u32 0, .int .u32 0, .int .u32 0, .int .u32 0, .int .u32 0, .int .u32 0, .int .u32 0, .int .u32 0, .int .u32 0, .int .u32 0, .bool false, .bool false, .bool false, .int .i64 0, .int .i64 0] 45) = u0 := hu
      rw [hu2]
      have hz : u0.heap.size = w.heap.size + 1 + 1 := by rw [← hu]; simp
      clear hu hu2
      go_upto_region 7 with (first | ((with_reducible refine wpList_load_blk (o := ⟨some 16, .load 26 (.tmp 3), _, _, _, none⟩) rfl _ _ rfl w.heap.size 26 x.cells _ ?_ ?_ Try.underlying26 rfl (cpu_sz _) ?_); rfl; exact b4) | ((with_reducible refine wpList_store_abs (o := ⟨none, .store 26 (.tmp 7) (.tmp 16), _, _, _, none⟩) rfl _ _ _ rfl (w.heap.size + 1 + 1) 26 zC.cells x.cells ?_ ?_ ?_ ?_ ?_ ?_ ?_); rfl; rfl; exact (Blk.new' _ _ _ _ _ hz rfl); exact cpu_sz _; rfl; exact cpu_one _; intro w1 b7 o1; replace b8 := (b8.alloc (.cells zC.cells.toArray 26)).only o1 (by omega); replace lw := Below.only (lw.alloc lw.size (.cells zC.cells.toArray 26)) o1 (by omega); have e1 := b7.cell (j := 23) (v := .int .u32 x.c6) rfl; have f1 := b7.frz 23))
      obtain ⟨u2, hu2⟩ : ∃ u2, u2 = (w1.setCell ⟨(w.heap.size + 1 + 1), 23, none⟩ (.int .u32 v)) := ⟨_, rfl⟩
      rw [← hu2]
      have b5 : Blk u2 (w.heap.size + 1 + 1) 26 ({ x with c6 := v } : Cpu).cells := by
        rw [hu2]
        exact (b7.set 23 (.int .u32 v))
      replace b8 : Blk u2 (w.heap.size + 1) 45 (gotC 0 zC 0) := by
        rw [hu2]
        exact (b8.set_other ⟨(w.heap.size + 1 + 1), 23, none⟩ (.int .u32 v) (by first | (simp; done) | (simp; omega)))
      replace lw : Later w u2 := by
        rw [hu2]
        exact (lw.setCell (p := ⟨(w.heap.size + 1 + 1), 23, none⟩) (by first | (simp; done) | (simp; omega)) (.int .u32 v))
      clear hu2 b4 b7 e1 f1 o1
      obtain ⟨Y, hY⟩ : ∃ Y : Cpu, Y = ({ x with c6 := v } : Cpu) := ⟨_, rfl⟩
      have HY := Lib.hid hY
      rw [← hY] at b5
      clear hY
      go_wp2_with (first | ((with_reducible refine wpList_load_blk (o := ⟨some 28, .load 26 (.tmp 7), _, _, _, none⟩) rfl _ _ rfl (w.heap.size + 1 + 1) 26 Y.cells _ ?_ ?_ Try.underlying26 rfl (cpu_sz _) ?_); rfl; exact b5) | ((with_reducible refine wpList_bld (o := ⟨some 29, .build 45 #[(1, .tmp 28)], _, _, _, none⟩) rfl _ #[(1, .tmp 28)] #[(1, .agg Y.cells.toArray)] (gotC 0 Y 0).toArray rfl ?_ (run_c Y _) ?_); rfl) | ((with_reducible refine wpList_store_abs (o := ⟨none, .store 45 (.tmp 6) (.tmp 29), _, _, _, none⟩) rfl _ _ _ rfl (w.heap.size + 1) 45 (gotC 0 zC 0) (gotC 0 Y 0) ?_ ?_ ?_ ?_ ?_ ?_ ?_); rfl; rfl; exact b8; exact got_sz _ _ _; rfl; exact got_one _ _ _; intro w9 b9 o9))
      exact bodyPost_ret (got_ret Try.results26 _ _ (w.heap.size + 1) 0 Y 0 rfl b9) rfl ⟨by rw [HY.out]; rfl, Below.only lw o9 (by omega)⟩
  · rw [(put_out (x := x) (v := v) h).1, (put_out (x := x) (v := v) h).2]
    by_cases h2 : n < 0
    · clear h
      go_enter Try.func26, Try.ntmps26
      go_upto_region 1 with fail
      obtain ⟨u0, hu⟩ : ∃ u0, (w.alloc (.cells x.cells.toArray 26)).alloc (.cells (gotC 0 zC 0).toArray 45) = u0 := ⟨_, rfl⟩
      rw [hu] at b4 b8 lw
      have hu2 : (w.alloc (.cells x.cells.toArray 26)).alloc (.cells #[.int .u32 0, .int .u32 0, .int .u32 0, .int .u32 0, .int .u32 0, .int .u32 0, .int .u32 0, .int .u32 0, .int .u32 0, .int .u32 0, .int .u32 0, .int .u32 0, .int .u32 0, .int .u32 0, .int .u32 0, .int .u32 0, .int .u32 0, .int .u32 0, .int .u32 0, .int .u32 0, .int .u32 0, .int .u32 0, .int .u32 0, .int .u32 0, .int .u32 0, .int .u32 0, .int .u32 0, .bool false, .bool false, .bool false, .int .i64 0, .int .i64 0] 45) = u0 := hu
      rw [hu2]
      clear hu hu2
      go_wp2_with (first | ((with_reducible refine wpList_load_blk (o := ⟨some 14, .load 26 (.tmp 3), _, _, _, none⟩) rfl _ _ rfl w.heap.size 26 x.cells _ ?_ ?_ Try.underlying26 rfl (cpu_sz _) ?_); rfl; exact b4) | ((with_reducible refine wpList_bld (o := ⟨some 15, .build 45 #[(1, .tmp 14), (2, .const (.int .i64 1))], _, _, _, none⟩) rfl _ #[(1, .tmp 14), (2, .const (.int .i64 1))] #[(1, .agg x.cells.toArray), (2, .int .i64 1)] (gotC 0 x 1).toArray rfl ?_ (run_ce x 1 _) ?_); rfl) | ((with_reducible refine wpList_store_abs (o := ⟨none, .store 45 (.tmp 6) (.tmp 15), _, _, _, none⟩) rfl _ _ _ rfl (w.heap.size + 1) 45 (gotC 0 zC 0) (gotC 0 x 1) ?_ ?_ ?_ ?_ ?_ ?_ ?_); rfl; rfl; exact b8; exact got_sz _ _ _; rfl; exact got_one _ _ _; intro w9 b9 o9))
      exact bodyPost_ret (got_ret Try.results26 _ _ (w.heap.size + 1) 0 x 1 rfl b9) rfl ⟨rfl, Below.only lw o9 (by omega)⟩
    · have h3 : 6 < n := by omega
      clear h
      go_enter Try.func26, Try.ntmps26
      go_upto_region 1 with fail
      obtain ⟨u0, hu⟩ : ∃ u0, (w.alloc (.cells x.cells.toArray 26)).alloc (.cells (gotC 0 zC 0).toArray 45) = u0 := ⟨_, rfl⟩
      rw [hu] at b4 b8 lw
      have hu2 : (w.alloc (.cells x.cells.toArray 26)).alloc (.cells #[.int .u32 0, .int .u32 0, .int .u32 0, .int .u32 0, .int .u32 0, .int .u32 0, .int .u32 0, .int .u32 0, .int .u32 0, .int .u32 0, .int .u32 0, .int .u32 0, .int .u32 0, .int .u32 0, .int .u32 0, .int .u32 0, .int .u32 0, .int .u32 0, .int .u32 0, .int .u32 0, .int .u32 0, .int .u32 0, .int .u32 0, .int .u32 0, .int .u32 0, .int .u32 0, .int .u32 0, .bool false, .bool false, .bool false, .int .i64 0, .int .i64 0] 45) = u0 := hu
      rw [hu2]
      clear hu hu2
      go_wp2_with (first | ((with_reducible refine wpList_load_blk (o := ⟨some 14, .load 26 (.tmp 3), _, _, _, none⟩) rfl _ _ rfl w.heap.size 26 x.cells _ ?_ ?_ Try.underlying26 rfl (cpu_sz _) ?_); rfl; exact b4) | ((with_reducible refine wpList_bld (o := ⟨some 15, .build 45 #[(1, .tmp 14), (2, .const (.int .i64 1))], _, _, _, none⟩) rfl _ #[(1, .tmp 14), (2, .const (.int .i64 1))] #[(1, .agg x.cells.toArray), (2, .int .i64 1)] (gotC 0 x 1).toArray rfl ?_ (run_ce x 1 _) ?_); rfl) | ((with_reducible refine wpList_store_abs (o := ⟨none, .store 45 (.tmp 6) (.tmp 15), _, _, _, none⟩) rfl _ _ _ rfl (w.heap.size + 1) 45 (gotC 0 zC 0) (gotC 0 x 1) ?_ ?_ ?_ ?_ ?_ ?_ ?_); rfl; rfl; exact b8; exact got_sz _ _ _; rfl; exact got_one _ _ _; intro w9 b9 o9))
      exact bodyPost_ret (got_ret Try.results26 _ _ (w.heap.size + 1) 0 x 1 rfl b9) rfl ⟨rfl, Below.only lw o9 (by omega)⟩
end Go.Proofs.Ytkknobonpejgbaa
