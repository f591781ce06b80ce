/-
  A CONSOLE: ports, Port; the reference's Feed and Port.
-/
import Derived.Test.YtkhgaikfomcjeaaConC
import Derived.Deep.RegionHeld
import Derived.Lib.Hide
namespace Go.Proofs.Ytkhgaikfomcjeaa
open Go.RowKit Go.ChangeShapes Go.WideShapes Go.ChangeAt

def portsC : List Value := [.int .i64 32, .bool false, .func (.func 30) #[] #[], .int .i64 33, .bool true, .func (.func 31) #[] #[], .int .i64 34, .bool true, .func (.func 32) #[] #[]]
theorem ports_sz : (Try.prog.info? 60).map (·.size) = some 9 := by kernel_rfl
theorem ports_one : ∀ u ∈ portsC, u.oneCell' = true := by
  intro u hu
  simp only [portsC, List.mem_cons, List.not_mem_nil, or_false] at hu
  rcases hu with rfl | rfl | rfl | rfl | rfl | rfl | rfl | rfl | rfl <;> rfl
theorem port_sz : (Try.prog.info? 59).map (·.size) = some 3 := by kernel_rfl
def portC (n : Int) (i : Bool) (f : FuncId) : List Value := [.int .i64 n, .bool i, .func (.func f) #[] #[]]
theorem port_one (n : Int) (i : Bool) (f : FuncId) : ∀ u ∈ portC n i f, u.oneCell' = true := by
  intro u hu
  simp only [portC, List.mem_cons, List.not_mem_nil, or_false] at hu
  rcases hu with rfl | rfl | rfl <;> rfl
set_option maxRecDepth 100000 in
theorem ports_any (w : World) : Calls Try.prog 23 #[] w fun e w' => e = .returned (.agg portsC.toArray) ∧ Later w w' := by
  have b0 := fun z => Blk.new w 60 (z : List Value).toArray z rfl
  have lw := fun z => later1 w (.cells (z : List Value).toArray 60)
  go_enter Try.func23, Try.ntmps23
  go_upto_region 1 with fail
  go_wp2_with (first
    | ((with_reducible refine wpList_bld (o := ⟨some 1, .build 59 #[(0, .const (.int .i64 32)), (1, .const (.bool false)), (2, .func 30)], _, _, _, none⟩) rfl _ #[(0, .const (.int .i64 32)), (1, .const (.bool false)), (2, .func 30)] #[(0, .int .i64 32), (1, .bool false), (2, .func (.func 30) #[] #[])] #[.int .i64 32, .bool false, .func (.func 30) #[] #[]] rfl ?_ (run_build _ _ _ _ (by kernel_rfl)) ?_); rfl)
    | ((with_reducible refine wpList_bld (o := ⟨some 2, .build 59 #[(0, .const (.int .i64 33)), (1, .const (.bool true)), (2, .func 31)], _, _, _, none⟩) rfl _ #[(0, .const (.int .i64 33)), (1, .const (.bool true)), (2, .func 31)] #[(0, .int .i64 33), (1, .bool true), (2, .func (.func 31) #[] #[])] #[.int .i64 33, .bool true, .func (.func 31) #[] #[]] rfl ?_ (run_build _ _ _ _ (by kernel_rfl)) ?_); rfl)
    | ((with_reducible refine wpList_bld (o := ⟨some 3, .build 59 #[(0, .const (.int .i64 34)), (1, .const (.bool true)), (2, .func 32)], _, _, _, none⟩) rfl _ #[(0, .const (.int .i64 34)), (1, .const (.bool true)), (2, .func 32)] #[(0, .int .i64 34), (1, .bool true), (2, .func (.func 32) #[] #[])] #[.int .i64 34, .bool true, .func (.func 32) #[] #[]] rfl ?_ (run_build _ _ _ _ (by kernel_rfl)) ?_); rfl)
    | ((with_reducible refine wpList_bld (o := ⟨some 4, .build 60 #[(0, .tmp 1), (1, .tmp 2), (2, .tmp 3)], _, _, _, none⟩) rfl _ #[(0, .tmp 1), (1, .tmp 2), (2, .tmp 3)] #[(0, .agg #[.int .i64 32, .bool false, .func (.func 30) #[] #[]]), (1, .agg #[.int .i64 33, .bool true, .func (.func 31) #[] #[]]), (2, .agg #[.int .i64 34, .bool true, .func (.func 32) #[] #[]])] portsC.toArray rfl ?_ (run_build _ _ _ _ (by kernel_rfl)) ?_); rfl)
    | ((with_reducible refine wpList_store_abs (o := ⟨none, .store 60 (.tmp 0) (.tmp 4), _, _, _, none⟩) rfl _ _ _ rfl w.heap.size 60 [.int .i64 0, .bool false, .nilFunc, .int .i64 0, .bool false, .nilFunc, .int .i64 0, .bool false, .nilFunc] portsC ?_ ?_ ?_ ?_ ?_ ?_ ?_); rfl; rfl; exact (b0 _); exact ports_sz; rfl; exact ports_one; intro w9 b9 o9))
  exact bodyPost_ret (results_blk Try.results23 _ _ w.heap.size 60 _ _ rfl b9 Try.underlying60 rfl ports_sz) rfl ⟨rfl, Below.only (lw _) o9 (Nat.le_refl _)⟩
set_option maxRecDepth 100000 in
theorem run_index_ports (k : Nat) (hk : k < 3) (w : World) : (Instr.index 60 (.agg portsC.toArray) (.int .i64 (k : Nat))).run Try.prog w = .ok (.agg ((portsC.drop (k * 3)).take 3).toArray) w := by
  have h1 : (isAgg 59).run Try.prog w = .ok true w := by kernel_rfl
  have h2 : (sizeOf 59).run Try.prog w = .ok 3 w := by kernel_rfl
  unfold Instr.index
  rcases (show k = 0 ∨ k = 1 ∨ k = 2 by omega) with rfl | rfl | rfl <;> simp [asIntOf, run_underlying Try.underlying60, part, h1, h2, Result.andThen, portsC]
def ioC (inn : Bool) (p v : Int) : List Value := [.bool inn, .int .i64 p, .int .u32 v]
theorem built_cg (y : Cn) : Try.prog.built 63 [(0, .agg y.cells.toArray)] = some (cgC y 0 noS).toArray := by kernel_rfl
theorem run_cg (y : Cn) (w : World) : (Instr.build 63 #[(0, .agg y.cells.toArray)]).run Try.prog w = .ok (.agg (cgC y 0 noS).toArray) w := run_build w _ _ _ (built_cg y)
theorem cn_ret4 {fn : Func} {p q r t : Tmp} (h : fn.results = #[.cell p 23, .tmp q, .tmp r, .tmp t]) (tmps : Array Value) (w : World) (B : Nat) (x : Cn) (v u z : Value) (hp : tmps.getD p undef = .pointer (some ⟨B, 0, none⟩)) (hq : tmps.getD q undef = v) (hr : tmps.getD r undef = u) (ht : tmps.getD t undef = z) (hb : Blk w B 23 x.cells) :
    (results fn tmps).run Try.prog w = .ok (.tuple #[.agg x.cells.toArray, v, u, z]) w := by
  have hp' : tmps[p]?.getD undef = .pointer (some ⟨B, 0, none⟩) := by simpa using hp
  have hq' : tmps[q]?.getD undef = v := by simpa using hq
  have hr' : tmps[r]?.getD undef = u := by simpa using hr
  have ht' : tmps[t]?.getD undef = z := by simpa using ht
  simp [results, h, hp', hq', hr', ht', asAddr, run_loadVar_row w B 23 23 x.cells.toArray (0, 0) _ hb Try.underlying23 rfl (by rw [List.size_toArray]; exact cn_sz _)]
set_option maxRecDepth 100000 in
set_option maxHeartbeats 4000000 in
theorem port_put (x : Cn) (v : Int) (w : World) (_ : x.s.size ≤ 64) : Calls Try.prog 13 #[.agg x.cells.toArray, .agg #[.bool false, .int .i64 32, .int .u32 v]] w fun e w' => e = .returned (.tuple #[.agg x.cells.toArray, .int .u32 0, .string (one (v % 256)), .bool true]) ∧ Later w w' := by
  have b2 := (((Blk.new' w w.heap.size 23 (x.cells).toArray (x.cells) (by simp) rfl).alloc (.cells (ioC false 32 v).toArray 26)).alloc (.cells (zC.cells).toArray 23))
  have b3 := ((Blk.new' (w.alloc (.cells (x.cells).toArray 23)) (w.heap.size + 1) 26 (ioC false 32 v).toArray (ioC false 32 v) (by simp) rfl).alloc (.cells (zC.cells).toArray 23))
  have b4 := (Blk.new' ((w.alloc (.cells (x.cells).toArray 23)).alloc (.cells (ioC false 32 v).toArray 26)) (w.heap.size + 1 + 1) 23 (zC.cells).toArray (zC.cells) (by simp) rfl)
  have lw := (((later1 w (.cells (x.cells).toArray 23)).alloc (by simp; try omega) (.cells (ioC false 32 v).toArray 26)).alloc (by simp; try omega) (.cells (zC.cells).toArray 23))
  obtain ⟨u0, hu⟩ : ∃ u, (((w.alloc (.cells (x.cells).toArray 23)).alloc (.cells (ioC false 32 v).toArray 26)).alloc (.cells (zC.cells).toArray 23)) = u := ⟨_, rfl⟩
  rw [hu] at b2 b3 b4 lw
  have KP := Lib.hid fun w' => ports_any w'
  go_enter Try.func13, Try.ntmps13
  go_upto_region 1 with fail
  have hu2 : (((w.alloc (.cells (x.cells).toArray 23)).alloc (.cells #[.bool false, .int .i64 32, .int .u32 v] 26)).alloc (.cells #[.string ⟨#[]⟩, .int .i64 0] 23)) = u0 := hu
  try rw [hu2]
  clear hu hu2
  go_upto_region 2 with (first
    | (go_at_call 23; (with_reducible refine (KP.out _).mono ?_); rintro e w1 ⟨rfl, l1⟩; replace b2 := b2.keep l1; replace b3 := b3.keep l1; replace b4 := b4.keep l1; replace lw := Later.trans_ lw l1))
  go_loopw [12] (fun i wr => ∃ k : Nat, k ≤ 0 ∧ i = .int .i64 k ∧ Blk wr w.heap.size 23 x.cells ∧ Blk wr (w.heap.size + 1) 26 (ioC false 32 v) ∧ Blk wr (w.heap.size + 1 + 1) 23 zC.cells ∧ Later w wr) (fun i _ => 4 - (intOf i).toNat)
  case atStart => exact ⟨0, by omega, rfl, b2, b3, b4, lw⟩
  case round =>
    clear b2 b3 b4 lw
    obtain ⟨k, hk, rfl, b2, b3, b4, lw⟩ := hrel
    obtain rfl : k = 0 := by omega
    have hix : ∀ w', (Instr.index 60 (.agg portsC.toArray) (.int .i64 0)).run Try.prog w' = .ok (.agg (portC 32 false 30).toArray) w' := fun w' => run_index_ports 0 (by omega) w'
    have n2 := Nat.ne_of_lt b2.lt
    have n3 := Nat.ne_of_lt b3.lt
    have n4 := Nat.ne_of_lt b4.lt
    have KC := Lib.hid fun w' => put_any x 0 noS v w' 
    go_upto_region 6 with (first
      | ((with_reducible refine wpList_store_abs (o := ⟨none, .store 59 (.tmp 9) (.tmp 14), _, _, _, none⟩) rfl _ _ _ rfl wr.heap.size 59 [.int .i64 0, .bool false, .nilFunc] (portC 32 false 30) ?_ ?_ ?_ ?_ ?_ ?_ ?_); rfl; rfl; exact (Blk.new _ _ _ _ rfl); exact port_sz; rfl; exact port_one _ _ _; intro w1 b9 o9; replace b2 := (b2.alloc _).only o9 n2; replace b3 := (b3.alloc _).only o9 n3; replace b4 := (b4.alloc _).only o9 n4; replace lw := Below.only (lw.alloc lw.size _) o9 lw.size; have f0 := b9.cell (j := 0) rfl; have f1 := b9.cell (j := 1) rfl; have f2 := b9.cell (j := 2) rfl; have e0 := b3.cell (j := 0) rfl; have e1 := b3.cell (j := 1) rfl; have e2 := b3.cell (j := 2) rfl; clear o9)
      | ((with_reducible refine wpList_load_blk (o := ⟨some 29, .load 23 (.tmp 2), _, _, _, none⟩) rfl _ _ rfl w.heap.size 23 x.cells _ ?_ ?_ Try.underlying23 rfl (cn_sz _) ?_); rfl; exact b2)
      | ((with_reducible refine wpList_bld (o := ⟨some 30, .build 63 #[(0, .tmp 29)], _, _, _, none⟩) rfl _ #[(0, .tmp 29)] #[(0, .agg x.cells.toArray)] (cgC x 0 noS).toArray rfl ?_ (run_cg x _) ?_); rfl)
      | (go_at_call 30; clear e0 e1 e2 f0 f1 f2; (with_reducible refine (KC.out _).mono ?_); rintro e w2 ⟨rfl, l1⟩; replace b2 := b2.keep l1; replace b3 := b3.keep l1; replace b4 := b4.keep l1; replace lw := Later.trans_ lw l1)
      | ((with_reducible refine wpList_store_abs (o := ⟨none, .store 63 (.tmp 10) (.tmp 33), _, _, _, none⟩) rfl _ _ _ rfl w2.heap.size 63 (cgC zC 0 noS) (cgC x 0 (one (v % 256))) ?_ ?_ ?_ ?_ ?_ ?_ ?_); rfl; rfl; exact (Blk.new _ _ _ _ rfl); exact (cg_sz _ _ _); rfl; exact cg_one _ _ _; have m4 := Nat.ne_of_lt b4.lt; intro w3 b10 o10; replace b4 := (b4.alloc _).only o10 m4; replace lw := Below.only (lw.alloc lw.size _) o10 lw.size; clear o10))
    have hb4 : (w.heap.size + 1 + 1) ≠ w2.heap.size := m4
    replace b4 := b4.drew
    replace b10 := b10.drew
    replace lw := lw.drew
    refine wp_region_held_drew (S := fun w' => World.rangeAt w' w2.heap.size 0 x.cells ∧ w'.cell? ⟨w2.heap.size, 2, none⟩ = some (.int .u32 0) ∧ w'.cell? ⟨w2.heap.size, 3, none⟩ = some (.string (one (v % 256)))) (by kernel_rfl) ⟨(show World.rangeAt _ w2.heap.size 0 x.cells from b10.range 0 2), b10.cell (j := 2) rfl, b10.cell (j := 3) rfl⟩ (fun hHeld => ?_)
    refine wpAnyH_take (i := 0) (oi := ⟨some 34, .fieldAddr 63 (.tmp 10) 0, _, _, _, none⟩) (v := .pointer (some ⟨w2.heap.size, 0, none⟩)) rfl (by kernel_rfl) (by kernel_rfl) (by kernel_rfl) (fun _ _ _ h => h) (Or.inl ⟨by rfl, fun w _ => by go_simp⟩) hHeld ?_
    simp only [Act.put, List.setIfInBounds_toArray, List.set_cons_zero, List.set_cons_succ]
    refine wpAnyH_take (i := 1) (oi := ⟨some 35, .load 23 (.tmp 34), _, _, _, none⟩) (v := .agg x.cells.toArray) rfl (by kernel_rfl) (by kernel_rfl) (by kernel_rfl) (fun _ _ _ h => h) (yieldsIf_load_mid (by rfl) _ _ rfl _ _ rfl x.cells _ (fun w h => h.1) Try.underlying23 rfl (cn_sz _)) hHeld ?_
    simp only [Act.put, List.setIfInBounds_toArray, List.set_cons_zero, List.set_cons_succ]
    refine wpAnyH_take (i := 2) (oi := ⟨some 36, .fieldAddr 63 (.tmp 10) 1, _, _, _, none⟩) (v := .pointer (some ⟨w2.heap.size, 2, none⟩)) rfl (by kernel_rfl) (by kernel_rfl) (by kernel_rfl) (fun _ _ _ h => h) (Or.inl ⟨by rfl, fun w _ => by go_simp⟩) hHeld ?_
    simp only [Act.put, List.setIfInBounds_toArray, List.set_cons_zero, List.set_cons_succ]
    refine wpAnyH_take (i := 3) (oi := ⟨some 37, .load 24 (.tmp 36), _, _, _, none⟩) (v := .int .u32 0) rfl (by kernel_rfl) (by kernel_rfl) (by kernel_rfl) (fun _ _ _ h => h) (Or.inl ⟨by rfl, fun w hSw => by have e1 := hSw.2.1; clear hSw; go_simp⟩) hHeld ?_
    simp only [Act.put, List.setIfInBounds_toArray, List.set_cons_zero, List.set_cons_succ]
    refine wpAnyH_take (i := 4) (oi := ⟨some 38, .fieldAddr 63 (.tmp 10) 2, _, _, _, none⟩) (v := .pointer (some ⟨w2.heap.size, 3, none⟩)) rfl (by kernel_rfl) (by kernel_rfl) (by kernel_rfl) (fun _ _ _ h => h) (Or.inl ⟨by rfl, fun w _ => by go_simp⟩) hHeld ?_
    simp only [Act.put, List.setIfInBounds_toArray, List.set_cons_zero, List.set_cons_succ]
    refine wpAnyH_take (i := 5) (oi := ⟨some 39, .load 9 (.tmp 38), _, _, _, none⟩) (v := .string (one (v % 256))) rfl (by kernel_rfl) (by kernel_rfl) (by kernel_rfl) (fun _ _ _ h => h) (Or.inl ⟨by rfl, fun w hSw => by have e1 := hSw.2.2; clear hSw; go_simp⟩) hHeld ?_
    simp only [Act.put, List.setIfInBounds_toArray, List.set_cons_zero, List.set_cons_succ]
    refine wpAnyH_ready (rs := [6]) (by kernel_rfl) (by simp) (AllReadyH.cons (o := ⟨none, .store 23 (.tmp 4) (.tmp 35), _, _, _, none⟩) rfl (fun K' hK => ?_) (AllReadyH.nil))
    refine wp_store_blk 23 _ _ rfl (w.heap.size + 1 + 1) 23 zC.cells x.cells rfl rfl b4 (cn_sz _) rfl (cn_one _) ?_
    intro w4 bq oq
    replace b10 := b10.only oq (Ne.symm hb4)
    replace lw := Below.only lw oq (by omega)
    clear oq
    refine hK.out _ _ ⟨(show World.rangeAt _ w2.heap.size 0 x.cells from b10.range 0 2), b10.cell (j := 2) rfl, b10.cell (j := 3) rfl⟩ (fun hHeld => ?_)
    clear hK K'
    try simp only [Act.put]
    refine wpAnyH_take (i := 7) (oi := ⟨some 5, .assign (.tmp 37), _, _, _, none⟩) (v := .int .u32 0) rfl (by kernel_rfl) (by kernel_rfl) (by kernel_rfl) (fun _ _ _ h => h) (Or.inl ⟨by rfl, fun _ _ => rfl⟩) hHeld ?_
    simp only [Act.put, List.setIfInBounds_toArray, List.set_cons_zero, List.set_cons_succ]
    refine wpAnyH_take (i := 8) (oi := ⟨some 6, .assign (.tmp 39), _, _, _, none⟩) (v := .string (one (v % 256))) rfl (by kernel_rfl) (by kernel_rfl) (by kernel_rfl) (fun _ _ _ h => h) (Or.inl ⟨by rfl, fun _ _ => rfl⟩) hHeld ?_
    simp only [Act.put, List.setIfInBounds_toArray, List.set_cons_zero, List.set_cons_succ]
    refine wpAnyH_take (i := 9) (oi := ⟨some 7, .assign (.const (.bool true)), _, _, _, none⟩) (v := .bool true) rfl (by kernel_rfl) (by kernel_rfl) (by kernel_rfl) (fun _ _ _ h => h) (Or.inl ⟨by rfl, fun _ _ => rfl⟩) hHeld ?_
    simp only [Act.put, List.setIfInBounds_toArray, List.set_cons_zero, List.set_cons_succ]
    refine wpAnyH_done (by kernel_rfl) ?_ _
    clear hHeld
    go_wp2
    exact bodyPost_ret (cn_ret4 Try.results13 _ _ (w.heap.size + 1 + 1) x (.int .u32 0) (.string (one (v % 256))) (.bool true) rfl rfl rfl rfl bq) rfl ⟨rfl, lw⟩
set_option maxRecDepth 100000 in
set_option maxHeartbeats 4000000 in
theorem port_take (x : Cn) (v : Int) (w : World) (hz : x.s.size ≤ 64) : Calls Try.prog 13 #[.agg x.cells.toArray, .agg #[.bool true, .int .i64 33, .int .u32 v]] w fun e w' => e = .returned (.tuple #[.agg (⟨restS x.s, x.n⟩ : Cn).cells.toArray, .int .u32 (firstV x.s), .string noS, .bool true]) ∧ Later w w' := by
  have b2 := (((Blk.new' w w.heap.size 23 (x.cells).toArray (x.cells) (by simp) rfl).alloc (.cells (ioC true 33 v).toArray 26)).alloc (.cells (zC.cells).toArray 23))
  have b3 := ((Blk.new' (w.alloc (.cells (x.cells).toArray 23)) (w.heap.size + 1) 26 (ioC true 33 v).toArray (ioC true 33 v) (by simp) rfl).alloc (.cells (zC.cells).toArray 23))
  have b4 := (Blk.new' ((w.alloc (.cells (x.cells).toArray 23)).alloc (.cells (ioC true 33 v).toArray 26)) (w.heap.size + 1 + 1) 23 (zC.cells).toArray (zC.cells) (by simp) rfl)
  have lw := (((later1 w (.cells (x.cells).toArray 23)).alloc (by simp; try omega) (.cells (ioC true 33 v).toArray 26)).alloc (by simp; try omega) (.cells (zC.cells).toArray 23))
  obtain ⟨u0, hu⟩ : ∃ u, (((w.alloc (.cells (x.cells).toArray 23)).alloc (.cells (ioC true 33 v).toArray 26)).alloc (.cells (zC.cells).toArray 23)) = u := ⟨_, rfl⟩
  rw [hu] at b2 b3 b4 lw
  have KP := Lib.hid fun w' => ports_any w'
  go_enter Try.func13, Try.ntmps13
  go_upto_region 1 with fail
  have hu2 : (((w.alloc (.cells (x.cells).toArray 23)).alloc (.cells #[.bool true, .int .i64 33, .int .u32 v] 26)).alloc (.cells #[.string ⟨#[]⟩, .int .i64 0] 23)) = u0 := hu
  try rw [hu2]
  clear hu hu2
  go_upto_region 2 with (first
    | (go_at_call 23; (with_reducible refine (KP.out _).mono ?_); rintro e w1 ⟨rfl, l1⟩; replace b2 := b2.keep l1; replace b3 := b3.keep l1; replace b4 := b4.keep l1; replace lw := Later.trans_ lw l1))
  go_loopw [12] (fun i wr => ∃ k : Nat, k ≤ 1 ∧ i = .int .i64 k ∧ Blk wr w.heap.size 23 x.cells ∧ Blk wr (w.heap.size + 1) 26 (ioC true 33 v) ∧ Blk wr (w.heap.size + 1 + 1) 23 zC.cells ∧ Later w wr) (fun i _ => 4 - (intOf i).toNat)
  case atStart => exact ⟨0, by omega, rfl, b2, b3, b4, lw⟩
  case round =>
    clear b2 b3 b4 lw
    obtain ⟨k, hk, rfl, b2, b3, b4, lw⟩ := hrel
    rcases (show k = 0 ∨ k = 1 by omega) with rfl | rfl
    · have hix : ∀ w', (Instr.index 60 (.agg portsC.toArray) (.int .i64 0)).run Try.prog w' = .ok (.agg (portC 32 false 30).toArray) w' := fun w' => run_index_ports 0 (by omega) w'
      have n2 := Nat.ne_of_lt b2.lt
      have n3 := Nat.ne_of_lt b3.lt
      have n4 := Nat.ne_of_lt b4.lt
      go_wp2_with (first
        | ((with_reducible refine wpList_store_abs (o := ⟨none, .store 59 (.tmp 9) (.tmp 14), _, _, _, none⟩) rfl _ _ _ rfl wr.heap.size 59 [.int .i64 0, .bool false, .nilFunc] (portC 32 false 30) ?_ ?_ ?_ ?_ ?_ ?_ ?_); rfl; rfl; exact (Blk.new _ _ _ _ rfl); exact port_sz; rfl; exact port_one _ _ _; intro w1 b9 o9; replace b2 := (b2.alloc _).only o9 n2; replace b3 := (b3.alloc _).only o9 n3; replace b4 := (b4.alloc _).only o9 n4; replace lw := Below.only (lw.alloc lw.size _) o9 lw.size; have f0 := b9.cell (j := 0) rfl; have f1 := b9.cell (j := 1) rfl; have f2 := b9.cell (j := 2) rfl; have e0 := b3.cell (j := 0) rfl; have e1 := b3.cell (j := 1) rfl; have e2 := b3.cell (j := 2) rfl; clear o9))
      go_roundw
      case rel => exact ⟨1, by omega, by first | rfl | go_num, b2, b3, b4, lw⟩
      case measure => first | (simp [intOf]; done) | (simp [intOf]; omega)
    · have hix : ∀ w', (Instr.index 60 (.agg portsC.toArray) (.int .i64 1)).run Try.prog w' = .ok (.agg (portC 33 true 31).toArray) w' := fun w' => run_index_ports 1 (by omega) w'
      have n2 := Nat.ne_of_lt b2.lt
      have n3 := Nat.ne_of_lt b3.lt
      have n4 := Nat.ne_of_lt b4.lt
      have KC := Lib.hid fun w' => take_any x 0 noS v w' hz
      go_upto_region 6 with (first
        | ((with_reducible refine wpList_store_abs (o := ⟨none, .store 59 (.tmp 9) (.tmp 14), _, _, _, none⟩) rfl _ _ _ rfl wr.heap.size 59 [.int .i64 0, .bool false, .nilFunc] (portC 33 true 31) ?_ ?_ ?_ ?_ ?_ ?_ ?_); rfl; rfl; exact (Blk.new _ _ _ _ rfl); exact port_sz; rfl; exact port_one _ _ _; intro w1 b9 o9; replace b2 := (b2.alloc _).only o9 n2; replace b3 := (b3.alloc _).only o9 n3; replace b4 := (b4.alloc _).only o9 n4; replace lw := Below.only (lw.alloc lw.size _) o9 lw.size; have f0 := b9.cell (j := 0) rfl; have f1 := b9.cell (j := 1) rfl; have f2 := b9.cell (j := 2) rfl; have e0 := b3.cell (j := 0) rfl; have e1 := b3.cell (j := 1) rfl; have e2 := b3.cell (j := 2) rfl; clear o9)
        | ((with_reducible refine wpList_load_blk (o := ⟨some 29, .load 23 (.tmp 2), _, _, _, none⟩) rfl _ _ rfl w.heap.size 23 x.cells _ ?_ ?_ Try.underlying23 rfl (cn_sz _) ?_); rfl; exact b2)
        | ((with_reducible refine wpList_bld (o := ⟨some 30, .build 63 #[(0, .tmp 29)], _, _, _, none⟩) rfl _ #[(0, .tmp 29)] #[(0, .agg x.cells.toArray)] (cgC x 0 noS).toArray rfl ?_ (run_cg x _) ?_); rfl)
        | (go_at_call 31; clear e0 e1 e2 f0 f1 f2; (with_reducible refine (KC.out _).mono ?_); rintro e w2 ⟨rfl, l1⟩; replace b2 := b2.keep l1; replace b3 := b3.keep l1; replace b4 := b4.keep l1; replace lw := Later.trans_ lw l1)
        | ((with_reducible refine wpList_store_abs (o := ⟨none, .store 63 (.tmp 10) (.tmp 33), _, _, _, none⟩) rfl _ _ _ rfl w2.heap.size 63 (cgC zC 0 noS) (cgC (⟨restS x.s, x.n⟩ : Cn) (firstV x.s) noS) ?_ ?_ ?_ ?_ ?_ ?_ ?_); rfl; rfl; exact (Blk.new _ _ _ _ rfl); exact (cg_sz _ _ _); rfl; exact cg_one _ _ _; have m4 := Nat.ne_of_lt b4.lt; intro w3 b10 o10; replace b4 := (b4.alloc _).only o10 m4; replace lw := Below.only (lw.alloc lw.size _) o10 lw.size; clear o10))
      have hb4 : (w.heap.size + 1 + 1) ≠ w2.heap.size := m4
      replace b4 := b4.drew
      replace b10 := b10.drew
      replace lw := lw.drew
      refine wp_region_held_drew (S := fun w' => World.rangeAt w' w2.heap.size 0 (⟨restS x.s, x.n⟩ : Cn).cells ∧ w'.cell? ⟨w2.heap.size, 2, none⟩ = some (.int .u32 (firstV x.s)) ∧ w'.cell? ⟨w2.heap.size, 3, none⟩ = some (.string noS)) (by kernel_rfl) ⟨(show World.rangeAt _ w2.heap.size 0 (⟨restS x.s, x.n⟩ : Cn).cells from b10.range 0 2), b10.cell (j := 2) rfl, b10.cell (j := 3) rfl⟩ (fun hHeld => ?_)
      refine wpAnyH_take (i := 0) (oi := ⟨some 34, .fieldAddr 63 (.tmp 10) 0, _, _, _, none⟩) (v := .pointer (some ⟨w2.heap.size, 0, none⟩)) rfl (by kernel_rfl) (by kernel_rfl) (by kernel_rfl) (fun _ _ _ h => h) (Or.inl ⟨by rfl, fun w _ => by go_simp⟩) hHeld ?_
      simp only [Act.put, List.setIfInBounds_toArray, List.set_cons_zero, List.set_cons_succ]
      refine wpAnyH_take (i := 1) (oi := ⟨some 35, .load 23 (.tmp 34), _, _, _, none⟩) (v := .agg (⟨restS x.s, x.n⟩ : Cn).cells.toArray) rfl (by kernel_rfl) (by kernel_rfl) (by kernel_rfl) (fun _ _ _ h => h) (yieldsIf_load_mid (by rfl) _ _ rfl _ _ rfl (⟨restS x.s, x.n⟩ : Cn).cells _ (fun w h => h.1) Try.underlying23 rfl (cn_sz _)) hHeld ?_
      simp only [Act.put, List.setIfInBounds_toArray, List.set_cons_zero, List.set_cons_succ]
      refine wpAnyH_take (i := 2) (oi := ⟨some 36, .fieldAddr 63 (.tmp 10) 1, _, _, _, none⟩) (v := .pointer (some ⟨w2.heap.size, 2, none⟩)) rfl (by kernel_rfl) (by kernel_rfl) (by kernel_rfl) (fun _ _ _ h => h) (Or.inl ⟨by rfl, fun w _ => by go_simp⟩) hHeld ?_
      simp only [Act.put, List.setIfInBounds_toArray, List.set_cons_zero, List.set_cons_succ]
      refine wpAnyH_take (i := 3) (oi := ⟨some 37, .load 24 (.tmp 36), _, _, _, none⟩) (v := .int .u32 (firstV x.s)) rfl (by kernel_rfl) (by kernel_rfl) (by kernel_rfl) (fun _ _ _ h => h) (Or.inl ⟨by rfl, fun w hSw => by have e1 := hSw.2.1; clear hSw; go_simp⟩) hHeld ?_
      simp only [Act.put, List.setIfInBounds_toArray, List.set_cons_zero, List.set_cons_succ]
      refine wpAnyH_take (i := 4) (oi := ⟨some 38, .fieldAddr 63 (.tmp 10) 2, _, _, _, none⟩) (v := .pointer (some ⟨w2.heap.size, 3, none⟩)) rfl (by kernel_rfl) (by kernel_rfl) (by kernel_rfl) (fun _ _ _ h => h) (Or.inl ⟨by rfl, fun w _ => by go_simp⟩) hHeld ?_
      simp only [Act.put, List.setIfInBounds_toArray, List.set_cons_zero, List.set_cons_succ]
      refine wpAnyH_take (i := 5) (oi := ⟨some 39, .load 9 (.tmp 38), _, _, _, none⟩) (v := .string noS) rfl (by kernel_rfl) (by kernel_rfl) (by kernel_rfl) (fun _ _ _ h => h) (Or.inl ⟨by rfl, fun w hSw => by have e1 := hSw.2.2; clear hSw; go_simp⟩) hHeld ?_
      simp only [Act.put, List.setIfInBounds_toArray, List.set_cons_zero, List.set_cons_succ]
      refine wpAnyH_ready (rs := [6]) (by kernel_rfl) (by simp) (AllReadyH.cons (o := ⟨none, .store 23 (.tmp 4) (.tmp 35), _, _, _, none⟩) rfl (fun K' hK => ?_) (AllReadyH.nil))
      refine wp_store_blk 23 _ _ rfl (w.heap.size + 1 + 1) 23 zC.cells (⟨restS x.s, x.n⟩ : Cn).cells rfl rfl b4 (cn_sz _) rfl (cn_one _) ?_
      intro w4 bq oq
      replace b10 := b10.only oq (Ne.symm hb4)
      replace lw := Below.only lw oq (by omega)
      clear oq
      refine hK.out _ _ ⟨(show World.rangeAt _ w2.heap.size 0 (⟨restS x.s, x.n⟩ : Cn).cells from b10.range 0 2), b10.cell (j := 2) rfl, b10.cell (j := 3) rfl⟩ (fun hHeld => ?_)
      clear hK K'
      try simp only [Act.put]
      refine wpAnyH_take (i := 7) (oi := ⟨some 5, .assign (.tmp 37), _, _, _, none⟩) (v := .int .u32 (firstV x.s)) rfl (by kernel_rfl) (by kernel_rfl) (by kernel_rfl) (fun _ _ _ h => h) (Or.inl ⟨by rfl, fun _ _ => rfl⟩) hHeld ?_
      simp only [Act.put, List.setIfInBounds_toArray, List.set_cons_zero, List.set_cons_succ]
      refine wpAnyH_take (i := 8) (oi := ⟨some 6, .assign (.tmp 39), _, _, _, none⟩) (v := .string noS) rfl (by kernel_rfl) (by kernel_rfl) (by kernel_rfl) (fun _ _ _ h => h) (Or.inl ⟨by rfl, fun _ _ => rfl⟩) hHeld ?_
      simp only [Act.put, List.setIfInBounds_toArray, List.set_cons_zero, List.set_cons_succ]
      refine wpAnyH_take (i := 9) (oi := ⟨some 7, .assign (.const (.bool true)), _, _, _, none⟩) (v := .bool true) rfl (by kernel_rfl) (by kernel_rfl) (by kernel_rfl) (fun _ _ _ h => h) (Or.inl ⟨by rfl, fun _ _ => rfl⟩) hHeld ?_
      simp only [Act.put, List.setIfInBounds_toArray, List.set_cons_zero, List.set_cons_succ]
      refine wpAnyH_done (by kernel_rfl) ?_ _
      clear hHeld
      go_wp2
      exact bodyPost_ret (cn_ret4 Try.results13 _ _ (w.heap.size + 1 + 1) (⟨restS x.s, x.n⟩ : Cn) (.int .u32 (firstV x.s)) (.string noS) (.bool true) rfl rfl rfl rfl bq) rfl ⟨rfl, lw⟩
set_option maxRecDepth 100000 in
set_option maxHeartbeats 4000000 in
theorem port_count (x : Cn) (v : Int) (w : World) (hz : x.s.size ≤ 64) : Calls Try.prog 13 #[.agg x.cells.toArray, .agg #[.bool true, .int .i64 34, .int .u32 v]] w fun e w' => e = .returned (.tuple #[.agg x.cells.toArray, .int .u32 (x.s.size : Int), .string noS, .bool true]) ∧ Later w w' := by
  have b2 := (((Blk.new' w w.heap.size 23 (x.cells).toArray (x.cells) (by simp) rfl).alloc (.cells (ioC true 34 v).toArray 26)).alloc (.cells (zC.cells).toArray 23))
  have b3 := ((Blk.new' (w.alloc (.cells (x.cells).toArray 23)) (w.heap.size + 1) 26 (ioC true 34 v).toArray (ioC true 34 v) (by simp) rfl).alloc (.cells (zC.cells).toArray 23))
  have b4 := (Blk.new' ((w.alloc (.cells (x.cells).toArray 23)).alloc (.cells (ioC true 34 v).toArray 26)) (w.heap.size + 1 + 1) 23 (zC.cells).toArray (zC.cells) (by simp) rfl)
  have lw := (((later1 w (.cells (x.cells).toArray 23)).alloc (by simp; try omega) (.cells (ioC true 34 v).toArray 26)).alloc (by simp; try omega) (.cells (zC.cells).toArray 23))
  obtain ⟨u0, hu⟩ : ∃ u, (((w.alloc (.cells (x.cells).toArray 23)).alloc (.cells (ioC true 34 v).toArray 26)).alloc (.cells (zC.cells).toArray 23)) = u := ⟨_, rfl⟩
  rw [hu] at b2 b3 b4 lw
  have KP := Lib.hid fun w' => ports_any w'
  go_enter Try.func13, Try.ntmps13
  go_upto_region 1 with fail
  have hu2 : (((w.alloc (.cells (x.cells).toArray 23)).alloc (.cells #[.bool true, .int .i64 34, .int .u32 v] 26)).alloc (.cells #[.string ⟨#[]⟩, .int .i64 0] 23)) = u0 := hu
  try rw [hu2]
  clear hu hu2
  go_upto_region 2 with (first
    | (go_at_call 23; (with_reducible refine (KP.out _).mono ?_); rintro e w1 ⟨rfl, l1⟩; replace b2 := b2.keep l1; replace b3 := b3.keep l1; replace b4 := b4.keep l1; replace lw := Later.trans_ lw l1))
  go_loopw [12] (fun i wr => ∃ k : Nat, k ≤ 2 ∧ i = .int .i64 k ∧ Blk wr w.heap.size 23 x.cells ∧ Blk wr (w.heap.size + 1) 26 (ioC true 34 v) ∧ Blk wr (w.heap.size + 1 + 1) 23 zC.cells ∧ Later w wr) (fun i _ => 4 - (intOf i).toNat)
  case atStart => exact ⟨0, by omega, rfl, b2, b3, b4, lw⟩
  case round =>
    clear b2 b3 b4 lw
    obtain ⟨k, hk, rfl, b2, b3, b4, lw⟩ := hrel
    rcases (show k = 0 ∨ k = 1 ∨ k = 2 by omega) with rfl | rfl | rfl
    · have hix : ∀ w', (Instr.index 60 (.agg portsC.toArray) (.int .i64 0)).run Try.prog w' = .ok (.agg (portC 32 false 30).toArray) w' := fun w' => run_index_ports 0 (by omega) w'
      have n2 := Nat.ne_of_lt b2.lt
      have n3 := Nat.ne_of_lt b3.lt
      have n4 := Nat.ne_of_lt b4.lt
      go_wp2_with (first
        | ((with_reducible refine wpList_store_abs (o := ⟨none, .store 59 (.tmp 9) (.tmp 14), _, _, _, none⟩) rfl _ _ _ rfl wr.heap.size 59 [.int .i64 0, .bool false, .nilFunc] (portC 32 false 30) ?_ ?_ ?_ ?_ ?_ ?_ ?_); rfl; rfl; exact (Blk.new _ _ _ _ rfl); exact port_sz; rfl; exact port_one _ _ _; intro w1 b9 o9; replace b2 := (b2.alloc _).only o9 n2; replace b3 := (b3.alloc _).only o9 n3; replace b4 := (b4.alloc _).only o9 n4; replace lw := Below.only (lw.alloc lw.size _) o9 lw.size; have f0 := b9.cell (j := 0) rfl; have f1 := b9.cell (j := 1) rfl; have f2 := b9.cell (j := 2) rfl; have e0 := b3.cell (j := 0) rfl; have e1 := b3.cell (j := 1) rfl; have e2 := b3.cell (j := 2) rfl; clear o9))
      go_roundw
      case rel => exact ⟨1, by omega, by first | rfl | go_num, b2, b3, b4, lw⟩
      case measure => first | (simp [intOf]; done) | (simp [intOf]; omega)
    · have hix : ∀ w', (Instr.index 60 (.agg portsC.toArray) (.int .i64 1)).run Try.prog w' = .ok (.agg (portC 33 true 31).toArray) w' := fun w' => run_index_ports 1 (by omega) w'
      have n2 := Nat.ne_of_lt b2.lt
      have n3 := Nat.ne_of_lt b3.lt
      have n4 := Nat.ne_of_lt b4.lt
      go_wp2_with (first
        | ((with_reducible refine wpList_store_abs (o := ⟨none, .store 59 (.tmp 9) (.tmp 14), _, _, _, none⟩) rfl _ _ _ rfl wr.heap.size 59 [.int .i64 0, .bool false, .nilFunc] (portC 33 true 31) ?_ ?_ ?_ ?_ ?_ ?_ ?_); rfl; rfl; exact (Blk.new _ _ _ _ rfl); exact port_sz; rfl; exact port_one _ _ _; intro w1 b9 o9; replace b2 := (b2.alloc _).only o9 n2; replace b3 := (b3.alloc _).only o9 n3; replace b4 := (b4.alloc _).only o9 n4; replace lw := Below.only (lw.alloc lw.size _) o9 lw.size; have f0 := b9.cell (j := 0) rfl; have f1 := b9.cell (j := 1) rfl; have f2 := b9.cell (j := 2) rfl; have e0 := b3.cell (j := 0) rfl; have e1 := b3.cell (j := 1) rfl; have e2 := b3.cell (j := 2) rfl; clear o9))
      go_roundw
      case rel => exact ⟨2, by omega, by first | rfl | go_num, b2, b3, b4, lw⟩
      case measure => first | (simp [intOf]; done) | (simp [intOf]; omega)
    · have hix : ∀ w', (Instr.index 60 (.agg portsC.toArray) (.int .i64 2)).run Try.prog w' = .ok (.agg (portC 34 true 32).toArray) w' := fun w' => run_index_ports 2 (by omega) w'
      have n2 := Nat.ne_of_lt b2.lt
      have n3 := Nat.ne_of_lt b3.lt
      have n4 := Nat.ne_of_lt b4.lt
      have KC := Lib.hid fun w' => count_any x 0 noS v w' hz
      go_upto_region 6 with (first
        | ((with_reducible refine wpList_store_abs (o := ⟨none, .store 59 (.tmp 9) (.tmp 14), _, _, _, none⟩) rfl _ _ _ rfl wr.heap.size 59 [.int .i64 0, .bool false, .nilFunc] (portC 34 true 32) ?_ ?_ ?_ ?_ ?_ ?_ ?_); rfl; rfl; exact (Blk.new _ _ _ _ rfl); exact port_sz; rfl; exact port_one _ _ _; intro w1 b9 o9; replace b2 := (b2.alloc _).only o9 n2; replace b3 := (b3.alloc _).only o9 n3; replace b4 := (b4.alloc _).only o9 n4; replace lw := Below.only (lw.alloc lw.size _) o9 lw.size; have f0 := b9.cell (j := 0) rfl; have f1 := b9.cell (j := 1) rfl; have f2 := b9.cell (j := 2) rfl; have e0 := b3.cell (j := 0) rfl; have e1 := b3.cell (j := 1) rfl; have e2 := b3.cell (j := 2) rfl; clear o9)
        | ((with_reducible refine wpList_load_blk (o := ⟨some 29, .load 23 (.tmp 2), _, _, _, none⟩) rfl _ _ rfl w.heap.size 23 x.cells _ ?_ ?_ Try.underlying23 rfl (cn_sz _) ?_); rfl; exact b2)
        | ((with_reducible refine wpList_bld (o := ⟨some 30, .build 63 #[(0, .tmp 29)], _, _, _, none⟩) rfl _ #[(0, .tmp 29)] #[(0, .agg x.cells.toArray)] (cgC x 0 noS).toArray rfl ?_ (run_cg x _) ?_); rfl)
        | (go_at_call 32; clear e0 e1 e2 f0 f1 f2; (with_reducible refine (KC.out _).mono ?_); rintro e w2 ⟨rfl, l1⟩; replace b2 := b2.keep l1; replace b3 := b3.keep l1; replace b4 := b4.keep l1; replace lw := Later.trans_ lw l1)
        | ((with_reducible refine wpList_store_abs (o := ⟨none, .store 63 (.tmp 10) (.tmp 33), _, _, _, none⟩) rfl _ _ _ rfl w2.heap.size 63 (cgC zC 0 noS) (cgC x (x.s.size : Int) noS) ?_ ?_ ?_ ?_ ?_ ?_ ?_); rfl; rfl; exact (Blk.new _ _ _ _ rfl); exact (cg_sz _ _ _); rfl; exact cg_one _ _ _; have m4 := Nat.ne_of_lt b4.lt; intro w3 b10 o10; replace b4 := (b4.alloc _).only o10 m4; replace lw := Below.only (lw.alloc lw.size _) o10 lw.size; clear o10))
      have hb4 : (w.heap.size + 1 + 1) ≠ w2.heap.size := m4
      replace b4 := b4.drew
      replace b10 := b10.drew
      replace lw := lw.drew
      refine wp_region_held_drew (S := fun w' => World.rangeAt w' w2.heap.size 0 x.cells ∧ w'.cell? ⟨w2.heap.size, 2, none⟩ = some (.int .u32 (x.s.size : Int)) ∧ w'.cell? ⟨w2.heap.size, 3, none⟩ = some (.string noS)) (by kernel_rfl) ⟨(show World.rangeAt _ w2.heap.size 0 x.cells from b10.range 0 2), b10.cell (j := 2) rfl, b10.cell (j := 3) rfl⟩ (fun hHeld => ?_)
      refine wpAnyH_take (i := 0) (oi := ⟨some 34, .fieldAddr 63 (.tmp 10) 0, _, _, _, none⟩) (v := .pointer (some ⟨w2.heap.size, 0, none⟩)) rfl (by kernel_rfl) (by kernel_rfl) (by kernel_rfl) (fun _ _ _ h => h) (Or.inl ⟨by rfl, fun w _ => by go_simp⟩) hHeld ?_
      simp only [Act.put, List.setIfInBounds_toArray, List.set_cons_zero, List.set_cons_succ]
      refine wpAnyH_take (i := 1) (oi := ⟨some 35, .load 23 (.tmp 34), _, _, _, none⟩) (v := .agg x.cells.toArray) rfl (by kernel_rfl) (by kernel_rfl) (by kernel_rfl) (fun _ _ _ h => h) (yieldsIf_load_mid (by rfl) _ _ rfl _ _ rfl x.cells _ (fun w h => h.1) Try.underlying23 rfl (cn_sz _)) hHeld ?_
      simp only [Act.put, List.setIfInBounds_toArray, List.set_cons_zero, List.set_cons_succ]
      refine wpAnyH_take (i := 2) (oi := ⟨some 36, .fieldAddr 63 (.tmp 10) 1, _, _, _, none⟩) (v := .pointer (some ⟨w2.heap.size, 2, none⟩)) rfl (by kernel_rfl) (by kernel_rfl) (by kernel_rfl) (fun _ _ _ h => h) (Or.inl ⟨by rfl, fun w _ => by go_simp⟩) hHeld ?_
      simp only [Act.put, List.setIfInBounds_toArray, List.set_cons_zero, List.set_cons_succ]
      refine wpAnyH_take (i := 3) (oi := ⟨some 37, .load 24 (.tmp 36), _, _, _, none⟩) (v := .int .u32 (x.s.size : Int)) rfl (by kernel_rfl) (by kernel_rfl) (by kernel_rfl) (fun _ _ _ h => h) (Or.inl ⟨by rfl, fun w hSw => by have e1 := hSw.2.1; clear hSw; go_simp⟩) hHeld ?_
      simp only [Act.put, List.setIfInBounds_toArray, List.set_cons_zero, List.set_cons_succ]
      refine wpAnyH_take (i := 4) (oi := ⟨some 38, .fieldAddr 63 (.tmp 10) 2, _, _, _, none⟩) (v := .pointer (some ⟨w2.heap.size, 3, none⟩)) rfl (by kernel_rfl) (by kernel_rfl) (by kernel_rfl) (fun _ _ _ h => h) (Or.inl ⟨by rfl, fun w _ => by go_simp⟩) hHeld ?_
      simp only [Act.put, List.setIfInBounds_toArray, List.set_cons_zero, List.set_cons_succ]
      refine wpAnyH_take (i := 5) (oi := ⟨some 39, .load 9 (.tmp 38), _, _, _, none⟩) (v := .string noS) rfl (by kernel_rfl) (by kernel_rfl) (by kernel_rfl) (fun _ _ _ h => h) (Or.inl ⟨by rfl, fun w hSw => by have e1 := hSw.2.2; clear hSw; go_simp⟩) hHeld ?_
      simp only [Act.put, List.setIfInBounds_toArray, List.set_cons_zero, List.set_cons_succ]
      refine wpAnyH_ready (rs := [6]) (by kernel_rfl) (by simp) (AllReadyH.cons (o := ⟨none, .store 23 (.tmp 4) (.tmp 35), _, _, _, none⟩) rfl (fun K' hK => ?_) (AllReadyH.nil))
      refine wp_store_blk 23 _ _ rfl (w.heap.size + 1 + 1) 23 zC.cells x.cells rfl rfl b4 (cn_sz _) rfl (cn_one _) ?_
      intro w4 bq oq
      replace b10 := b10.only oq (Ne.symm hb4)
      replace lw := Below.only lw oq (by omega)
      clear oq
      refine hK.out _ _ ⟨(show World.rangeAt _ w2.heap.size 0 x.cells from b10.range 0 2), b10.cell (j := 2) rfl, b10.cell (j := 3) rfl⟩ (fun hHeld => ?_)
      clear hK K'
      try simp only [Act.put]
      refine wpAnyH_take (i := 7) (oi := ⟨some 5, .assign (.tmp 37), _, _, _, none⟩) (v := .int .u32 (x.s.size : Int)) rfl (by kernel_rfl) (by kernel_rfl) (by kernel_rfl) (fun _ _ _ h => h) (Or.inl ⟨by rfl, fun _ _ => rfl⟩) hHeld ?_
      simp only [Act.put, List.setIfInBounds_toArray, List.set_cons_zero, List.set_cons_succ]
      refine wpAnyH_take (i := 8) (oi := ⟨some 6, .assign (.tmp 39), _, _, _, none⟩) (v := .string noS) rfl (by kernel_rfl) (by kernel_rfl) (by kernel_rfl) (fun _ _ _ h => h) (Or.inl ⟨by rfl, fun _ _ => rfl⟩) hHeld ?_
      simp only [Act.put, List.setIfInBounds_toArray, List.set_cons_zero, List.set_cons_succ]
      refine wpAnyH_take (i := 9) (oi := ⟨some 7, .assign (.const (.bool true)), _, _, _, none⟩) (v := .bool true) rfl (by kernel_rfl) (by kernel_rfl) (by kernel_rfl) (fun _ _ _ h => h) (Or.inl ⟨by rfl, fun _ _ => rfl⟩) hHeld ?_
      simp only [Act.put, List.setIfInBounds_toArray, List.set_cons_zero, List.set_cons_succ]
      refine wpAnyH_done (by kernel_rfl) ?_ _
      clear hHeld
      go_wp2
      exact bodyPost_ret (cn_ret4 Try.results13 _ _ (w.heap.size + 1 + 1) x (.int .u32 (x.s.size : Int)) (.string noS) (.bool true) rfl rfl rfl rfl bq) rfl ⟨rfl, lw⟩
set_option maxRecDepth 100000 in
set_option maxHeartbeats 4000000 in
theorem port_n32 (x : Cn) (v : Int) (w : World) (_ : x.s.size ≤ 64) : Calls Try.prog 13 #[.agg x.cells.toArray, .agg #[.bool true, .int .i64 32, .int .u32 v]] w fun e w' => e = .returned (.tuple #[.agg x.cells.toArray, .int .u32 0, .string noS, .bool false]) ∧ Later w w' := by
  have b2 := (((Blk.new' w w.heap.size 23 (x.cells).toArray (x.cells) (by simp) rfl).alloc (.cells (ioC true 32 v).toArray 26)).alloc (.cells (zC.cells).toArray 23))
  have b3 := ((Blk.new' (w.alloc (.cells (x.cells).toArray 23)) (w.heap.size + 1) 26 (ioC true 32 v).toArray (ioC true 32 v) (by simp) rfl).alloc (.cells (zC.cells).toArray 23))
  have b4 := (Blk.new' ((w.alloc (.cells (x.cells).toArray 23)).alloc (.cells (ioC true 32 v).toArray 26)) (w.heap.size + 1 + 1) 23 (zC.cells).toArray (zC.cells) (by simp) rfl)
  have lw := (((later1 w (.cells (x.cells).toArray 23)).alloc (by simp; try omega) (.cells (ioC true 32 v).toArray 26)).alloc (by simp; try omega) (.cells (zC.cells).toArray 23))
  obtain ⟨u0, hu⟩ : ∃ u, (((w.alloc (.cells (x.cells).toArray 23)).alloc (.cells (ioC true 32 v).toArray 26)).alloc (.cells (zC.cells).toArray 23)) = u := ⟨_, rfl⟩
  rw [hu] at b2 b3 b4 lw
  have KP := Lib.hid fun w' => ports_any w'
  go_enter Try.func13, Try.ntmps13
  go_upto_region 1 with fail
  have hu2 : (((w.alloc (.cells (x.cells).toArray 23)).alloc (.cells #[.bool true, .int .i64 32, .int .u32 v] 26)).alloc (.cells #[.string ⟨#[]⟩, .int .i64 0] 23)) = u0 := hu
  try rw [hu2]
  clear hu hu2
  go_upto_region 2 with (first
    | (go_at_call 23; (with_reducible refine (KP.out _).mono ?_); rintro e w1 ⟨rfl, l1⟩; replace b2 := b2.keep l1; replace b3 := b3.keep l1; replace b4 := b4.keep l1; replace lw := Later.trans_ lw l1))
  go_loopw [12] (fun i wr => ∃ k : Nat, k ≤ 3 ∧ i = .int .i64 k ∧ Blk wr w.heap.size 23 x.cells ∧ Blk wr (w.heap.size + 1) 26 (ioC true 32 v) ∧ Blk wr (w.heap.size + 1 + 1) 23 zC.cells ∧ Later w wr) (fun i _ => 4 - (intOf i).toNat)
  case atStart => exact ⟨0, by omega, rfl, b2, b3, b4, lw⟩
  case round =>
    clear b2 b3 b4 lw
    obtain ⟨k, hk, rfl, b2, b3, b4, lw⟩ := hrel
    rcases (show k = 0 ∨ k = 1 ∨ k = 2 ∨ k = 3 by omega) with rfl | rfl | rfl | rfl
    · have hix : ∀ w', (Instr.index 60 (.agg portsC.toArray) (.int .i64 0)).run Try.prog w' = .ok (.agg (portC 32 false 30).toArray) w' := fun w' => run_index_ports 0 (by omega) w'
      have n2 := Nat.ne_of_lt b2.lt
      have n3 := Nat.ne_of_lt b3.lt
      have n4 := Nat.ne_of_lt b4.lt
      go_wp2_with (first
        | ((with_reducible refine wpList_store_abs (o := ⟨none, .store 59 (.tmp 9) (.tmp 14), _, _, _, none⟩) rfl _ _ _ rfl wr.heap.size 59 [.int .i64 0, .bool false, .nilFunc] (portC 32 false 30) ?_ ?_ ?_ ?_ ?_ ?_ ?_); rfl; rfl; exact (Blk.new _ _ _ _ rfl); exact port_sz; rfl; exact port_one _ _ _; intro w1 b9 o9; replace b2 := (b2.alloc _).only o9 n2; replace b3 := (b3.alloc _).only o9 n3; replace b4 := (b4.alloc _).only o9 n4; replace lw := Below.only (lw.alloc lw.size _) o9 lw.size; have f0 := b9.cell (j := 0) rfl; have f1 := b9.cell (j := 1) rfl; have f2 := b9.cell (j := 2) rfl; have e0 := b3.cell (j := 0) rfl; have e1 := b3.cell (j := 1) rfl; have e2 := b3.cell (j := 2) rfl; clear o9))
      go_roundw
      case rel => exact ⟨1, by omega, by first | rfl | go_num, b2, b3, b4, lw⟩
      case measure => first | (simp [intOf]; done) | (simp [intOf]; omega)
    · have hix : ∀ w', (Instr.index 60 (.agg portsC.toArray) (.int .i64 1)).run Try.prog w' = .ok (.agg (portC 33 true 31).toArray) w' := fun w' => run_index_ports 1 (by omega) w'
      have n2 := Nat.ne_of_lt b2.lt
      have n3 := Nat.ne_of_lt b3.lt
      have n4 := Nat.ne_of_lt b4.lt
      go_wp2_with (first
        | ((with_reducible refine wpList_store_abs (o := ⟨none, .store 59 (.tmp 9) (.tmp 14), _, _, _, none⟩) rfl _ _ _ rfl wr.heap.size 59 [.int .i64 0, .bool false, .nilFunc] (portC 33 true 31) ?_ ?_ ?_ ?_ ?_ ?_ ?_); rfl; rfl; exact (Blk.new _ _ _ _ rfl); exact port_sz; rfl; exact port_one _ _ _; intro w1 b9 o9; replace b2 := (b2.alloc _).only o9 n2; replace b3 := (b3.alloc _).only o9 n3; replace b4 := (b4.alloc _).only o9 n4; replace lw := Below.only (lw.alloc lw.size _) o9 lw.size; have f0 := b9.cell (j := 0) rfl; have f1 := b9.cell (j := 1) rfl; have f2 := b9.cell (j := 2) rfl; have e0 := b3.cell (j := 0) rfl; have e1 := b3.cell (j := 1) rfl; have e2 := b3.cell (j := 2) rfl; clear o9))
      go_roundw
      case rel => exact ⟨2, by omega, by first | rfl | go_num, b2, b3, b4, lw⟩
      case measure => first | (simp [intOf]; done) | (simp [intOf]; omega)
    · have hix : ∀ w', (Instr.index 60 (.agg portsC.toArray) (.int .i64 2)).run Try.prog w' = .ok (.agg (portC 34 true 32).toArray) w' := fun w' => run_index_ports 2 (by omega) w'
      have n2 := Nat.ne_of_lt b2.lt
      have n3 := Nat.ne_of_lt b3.lt
      have n4 := Nat.ne_of_lt b4.lt
      go_wp2_with (first
        | ((with_reducible refine wpList_store_abs (o := ⟨none, .store 59 (.tmp 9) (.tmp 14), _, _, _, none⟩) rfl _ _ _ rfl wr.heap.size 59 [.int .i64 0, .bool false, .nilFunc] (portC 34 true 32) ?_ ?_ ?_ ?_ ?_ ?_ ?_); rfl; rfl; exact (Blk.new _ _ _ _ rfl); exact port_sz; rfl; exact port_one _ _ _; intro w1 b9 o9; replace b2 := (b2.alloc _).only o9 n2; replace b3 := (b3.alloc _).only o9 n3; replace b4 := (b4.alloc _).only o9 n4; replace lw := Below.only (lw.alloc lw.size _) o9 lw.size; have f0 := b9.cell (j := 0) rfl; have f1 := b9.cell (j := 1) rfl; have f2 := b9.cell (j := 2) rfl; have e0 := b3.cell (j := 0) rfl; have e1 := b3.cell (j := 1) rfl; have e2 := b3.cell (j := 2) rfl; clear o9))
      go_roundw
      case rel => exact ⟨3, by omega, by first | rfl | go_num, b2, b3, b4, lw⟩
      case measure => first | (simp [intOf]; done) | (simp [intOf]; omega)
    · go_wp2_with (first
        | ((with_reducible refine wpList_load_blk (o := ⟨some 41, .load 23 (.tmp 2), _, _, _, none⟩) rfl _ _ rfl w.heap.size 23 x.cells _ ?_ ?_ Try.underlying23 rfl (cn_sz _) ?_); rfl; exact b2)
        | ((with_reducible refine wpList_store_abs (o := ⟨none, .store 23 (.tmp 4) (.tmp 41), _, _, _, none⟩) rfl _ _ _ rfl (w.heap.size + 1 + 1) 23 zC.cells x.cells ?_ ?_ ?_ ?_ ?_ ?_ ?_); rfl; rfl; exact b4; exact cn_sz _; rfl; exact cn_one _; intro w9 b9 o9))
      exact bodyPost_ret (cn_ret4 Try.results13 _ _ (w.heap.size + 1 + 1) x (.int .u32 0) (.string noS) (.bool false) rfl rfl rfl rfl b9) rfl ⟨rfl, Below.only lw o9 (by omega)⟩
set_option maxRecDepth 100000 in
set_option maxHeartbeats 4000000 in
theorem port_n33 (x : Cn) (v : Int) (w : World) (_ : x.s.size ≤ 64) : Calls Try.prog 13 #[.agg x.cells.toArray, .agg #[.bool false, .int .i64 33, .int .u32 v]] w fun e w' => e = .returned (.tuple #[.agg x.cells.toArray, .int .u32 0, .string noS, .bool false]) ∧ Later w w' := by
  have b2 := (((Blk.new' w w.heap.size 23 (x.cells).toArray (x.cells) (by simp) rfl).alloc (.cells (ioC false 33 v).toArray 26)).alloc (.cells (zC.cells).toArray 23))
  have b3 := ((Blk.new' (w.alloc (.cells (x.cells).toArray 23)) (w.heap.size + 1) 26 (ioC false 33 v).toArray (ioC false 33 v) (by simp) rfl).alloc (.cells (zC.cells).toArray 23))
  have b4 := (Blk.new' ((w.alloc (.cells (x.cells).toArray 23)).alloc (.cells (ioC false 33 v).toArray 26)) (w.heap.size + 1 + 1) 23 (zC.cells).toArray (zC.cells) (by simp) rfl)
  have lw := (((later1 w (.cells (x.cells).toArray 23)).alloc (by simp; try omega) (.cells (ioC false 33 v).toArray 26)).alloc (by simp; try omega) (.cells (zC.cells).toArray 23))
  obtain ⟨u0, hu⟩ : ∃ u, (((w.alloc (.cells (x.cells).toArray 23)).alloc (.cells (ioC false 33 v).toArray 26)).alloc (.cells (zC.cells).toArray 23)) = u := ⟨_, rfl⟩
  rw [hu] at b2 b3 b4 lw
  have KP := Lib.hid fun w' => ports_any w'
  go_enter Try.func13, Try.ntmps13
  go_upto_region 1 with fail
  have hu2 : (((w.alloc (.cells (x.cells).toArray 23)).alloc (.cells #[.bool false, .int .i64 33, .int .u32 v] 26)).alloc (.cells #[.string ⟨#[]⟩, .int .i64 0] 23)) = u0 := hu
  try rw [hu2]
  clear hu hu2
  go_upto_region 2 with (first
    | (go_at_call 23; (with_reducible refine (KP.out _).mono ?_); rintro e w1 ⟨rfl, l1⟩; replace b2 := b2.keep l1; replace b3 := b3.keep l1; replace b4 := b4.keep l1; replace lw := Later.trans_ lw l1))
  go_loopw [12] (fun i wr => ∃ k : Nat, k ≤ 3 ∧ i = .int .i64 k ∧ Blk wr w.heap.size 23 x.cells ∧ Blk wr (w.heap.size + 1) 26 (ioC false 33 v) ∧ Blk wr (w.heap.size + 1 + 1) 23 zC.cells ∧ Later w wr) (fun i _ => 4 - (intOf i).toNat)
  case atStart => exact ⟨0, by omega, rfl, b2, b3, b4, lw⟩
  case round =>
    clear b2 b3 b4 lw
    obtain ⟨k, hk, rfl, b2, b3, b4, lw⟩ := hrel
    rcases (show k = 0 ∨ k = 1 ∨ k = 2 ∨ k = 3 by omega) with rfl | rfl | rfl | rfl
    · have hix : ∀ w', (Instr.index 60 (.agg portsC.toArray) (.int .i64 0)).run Try.prog w' = .ok (.agg (portC 32 false 30).toArray) w' := fun w' => run_index_ports 0 (by omega) w'
      have n2 := Nat.ne_of_lt b2.lt
      have n3 := Nat.ne_of_lt b3.lt
      have n4 := Nat.ne_of_lt b4.lt
      go_wp2_with (first
        | ((with_reducible refine wpList_store_abs (o := ⟨none, .store 59 (.tmp 9) (.tmp 14), _, _, _, none⟩) rfl _ _ _ rfl wr.heap.size 59 [.int .i64 0, .bool false, .nilFunc] (portC 32 false 30) ?_ ?_ ?_ ?_ ?_ ?_ ?_); rfl; rfl; exact (Blk.new _ _ _ _ rfl); exact port_sz; rfl; exact port_one _ _ _; intro w1 b9 o9; replace b2 := (b2.alloc _).only o9 n2; replace b3 := (b3.alloc _).only o9 n3; replace b4 := (b4.alloc _).only o9 n4; replace lw := Below.only (lw.alloc lw.size _) o9 lw.size; have f0 := b9.cell (j := 0) rfl; have f1 := b9.cell (j := 1) rfl; have f2 := b9.cell (j := 2) rfl; have e0 := b3.cell (j := 0) rfl; have e1 := b3.cell (j := 1) rfl; have e2 := b3.cell (j := 2) rfl; clear o9))
      go_roundw
      case rel => exact ⟨1, by omega, by first | rfl | go_num, b2, b3, b4, lw⟩
      case measure => first | (simp [intOf]; done) | (simp [intOf]; omega)
    · have hix : ∀ w', (Instr.index 60 (.agg portsC.toArray) (.int .i64 1)).run Try.prog w' = .ok (.agg (portC 33 true 31).toArray) w' := fun w' => run_index_ports 1 (by omega) w'
      have n2 := Nat.ne_of_lt b2.lt
      have n3 := Nat.ne_of_lt b3.lt
      have n4 := Nat.ne_of_lt b4.lt
      go_wp2_with (first
        | ((with_reducible refine wpList_store_abs (o := ⟨none, .store 59 (.tmp 9) (.tmp 14), _, _, _, none⟩) rfl _ _ _ rfl wr.heap.size 59 [.int .i64 0, .bool false, .nilFunc] (portC 33 true 31) ?_ ?_ ?_ ?_ ?_ ?_ ?_); rfl; rfl; exact (Blk.new _ _ _ _ rfl); exact port_sz; rfl; exact port_one _ _ _; intro w1 b9 o9; replace b2 := (b2.alloc _).only o9 n2; replace b3 := (b3.alloc _).only o9 n3; replace b4 := (b4.alloc _).only o9 n4; replace lw := Below.only (lw.alloc lw.size _) o9 lw.size; have f0 := b9.cell (j := 0) rfl; have f1 := b9.cell (j := 1) rfl; have f2 := b9.cell (j := 2) rfl; have e0 := b3.cell (j := 0) rfl; have e1 := b3.cell (j := 1) rfl; have e2 := b3.cell (j := 2) rfl; clear o9))
      go_roundw
      case rel => exact ⟨2, by omega, by first | rfl | go_num, b2, b3, b4, lw⟩
      case measure => first | (simp [intOf]; done) | (simp [intOf]; omega)
    · have hix : ∀ w', (Instr.index 60 (.agg portsC.toArray) (.int .i64 2)).run Try.prog w' = .ok (.agg (portC 34 true 32).toArray) w' := fun w' => run_index_ports 2 (by omega) w'
      have n2 := Nat.ne_of_lt b2.lt
      have n3 := Nat.ne_of_lt b3.lt
      have n4 := Nat.ne_of_lt b4.lt
      go_wp2_with (first
        | ((with_reducible refine wpList_store_abs (o := ⟨none, .store 59 (.tmp 9) (.tmp 14), _, _, _, none⟩) rfl _ _ _ rfl wr.heap.size 59 [.int .i64 0, .bool false, .nilFunc] (portC 34 true 32) ?_ ?_ ?_ ?_ ?_ ?_ ?_); rfl; rfl; exact (Blk.new _ _ _ _ rfl); exact port_sz; rfl; exact port_one _ _ _; intro w1 b9 o9; replace b2 := (b2.alloc _).only o9 n2; replace b3 := (b3.alloc _).only o9 n3; replace b4 := (b4.alloc _).only o9 n4; replace lw := Below.only (lw.alloc lw.size _) o9 lw.size; have f0 := b9.cell (j := 0) rfl; have f1 := b9.cell (j := 1) rfl; have f2 := b9.cell (j := 2) rfl; have e0 := b3.cell (j := 0) rfl; have e1 := b3.cell (j := 1) rfl; have e2 := b3.cell (j := 2) rfl; clear o9))
      go_roundw
      case rel => exact ⟨3, by omega, by first | rfl | go_num, b2, b3, b4, lw⟩
      case measure => first | (simp [intOf]; done) | (simp [intOf]; omega)
    · go_wp2_with (first
        | ((with_reducible refine wpList_load_blk (o := ⟨some 41, .load 23 (.tmp 2), _, _, _, none⟩) rfl _ _ rfl w.heap.size 23 x.cells _ ?_ ?_ Try.underlying23 rfl (cn_sz _) ?_); rfl; exact b2)
        | ((with_reducible refine wpList_store_abs (o := ⟨none, .store 23 (.tmp 4) (.tmp 41), _, _, _, none⟩) rfl _ _ _ rfl (w.heap.size + 1 + 1) 23 zC.cells x.cells ?_ ?_ ?_ ?_ ?_ ?_ ?_); rfl; rfl; exact b4; exact cn_sz _; rfl; exact cn_one _; intro w9 b9 o9))
      exact bodyPost_ret (cn_ret4 Try.results13 _ _ (w.heap.size + 1 + 1) x (.int .u32 0) (.string noS) (.bool false) rfl rfl rfl rfl b9) rfl ⟨rfl, Below.only lw o9 (by omega)⟩
set_option maxRecDepth 100000 in
set_option maxHeartbeats 4000000 in
theorem port_n34 (x : Cn) (v : Int) (w : World) (_ : x.s.size ≤ 64) : Calls Try.prog 13 #[.agg x.cells.toArray, .agg #[.bool false, .int .i64 34, .int .u32 v]] w fun e w' => e = .returned (.tuple #[.agg x.cells.toArray, .int .u32 0, .string noS, .bool false]) ∧ Later w w' := by
  have b2 := (((Blk.new' w w.heap.size 23 (x.cells).toArray (x.cells) (by simp) rfl).alloc (.cells (ioC false 34 v).toArray 26)).alloc (.cells (zC.cells).toArray 23))
  have b3 := ((Blk.new' (w.alloc (.cells (x.cells).toArray 23)) (w.heap.size + 1) 26 (ioC false 34 v).toArray (ioC false 34 v) (by simp) rfl).alloc (.cells (zC.cells).toArray 23))
  have b4 := (Blk.new' ((w.alloc (.cells (x.cells).toArray 23)).alloc (.cells (ioC false 34 v).toArray 26)) (w.heap.size + 1 + 1) 23 (zC.cells).toArray (zC.cells) (by simp) rfl)
  have lw := (((later1 w (.cells (x.cells).toArray 23)).alloc (by simp; try omega) (.cells (ioC false 34 v).toArray 26)).alloc (by simp; try omega) (.cells (zC.cells).toArray 23))
  obtain ⟨u0, hu⟩ : ∃ u, (((w.alloc (.cells (x.cells).toArray 23)).alloc (.cells (ioC false 34 v).toArray 26)).alloc (.cells (zC.cells).toArray 23)) = u := ⟨_, rfl⟩
  rw [hu] at b2 b3 b4 lw
  have KP := Lib.hid fun w' => ports_any w'
  go_enter Try.func13, Try.ntmps13
  go_upto_region 1 with fail
  have hu2 : (((w.alloc (.cells (x.cells).toArray 23)).alloc (.cells #[.bool false, .int .i64 34, .int .u32 v] 26)).alloc (.cells #[.string ⟨#[]⟩, .int .i64 0] 23)) = u0 := hu
  try rw [hu2]
  clear hu hu2
  go_upto_region 2 with (first
    | (go_at_call 23; (with_reducible refine (KP.out _).mono ?_); rintro e w1 ⟨rfl, l1⟩; replace b2 := b2.keep l1; replace b3 := b3.keep l1; replace b4 := b4.keep l1; replace lw := Later.trans_ lw l1))
  go_loopw [12] (fun i wr => ∃ k : Nat, k ≤ 3 ∧ i = .int .i64 k ∧ Blk wr w.heap.size 23 x.cells ∧ Blk wr (w.heap.size + 1) 26 (ioC false 34 v) ∧ Blk wr (w.heap.size + 1 + 1) 23 zC.cells ∧ Later w wr) (fun i _ => 4 - (intOf i).toNat)
  case atStart => exact ⟨0, by omega, rfl, b2, b3, b4, lw⟩
  case round =>
    clear b2 b3 b4 lw
    obtain ⟨k, hk, rfl, b2, b3, b4, lw⟩ := hrel
    rcases (show k = 0 ∨ k = 1 ∨ k = 2 ∨ k = 3 by omega) with rfl | rfl | rfl | rfl
    · have hix : ∀ w', (Instr.index 60 (.agg portsC.toArray) (.int .i64 0)).run Try.prog w' = .ok (.agg (portC 32 false 30).toArray) w' := fun w' => run_index_ports 0 (by omega) w'
      have n2 := Nat.ne_of_lt b2.lt
      have n3 := Nat.ne_of_lt b3.lt
      have n4 := Nat.ne_of_lt b4.lt
      go_wp2_with (first
        | ((with_reducible refine wpList_store_abs (o := ⟨none, .store 59 (.tmp 9) (.tmp 14), _, _, _, none⟩) rfl _ _ _ rfl wr.heap.size 59 [.int .i64 0, .bool false, .nilFunc] (portC 32 false 30) ?_ ?_ ?_ ?_ ?_ ?_ ?_); rfl; rfl; exact (Blk.new _ _ _ _ rfl); exact port_sz; rfl; exact port_one _ _ _; intro w1 b9 o9; replace b2 := (b2.alloc _).only o9 n2; replace b3 := (b3.alloc _).only o9 n3; replace b4 := (b4.alloc _).only o9 n4; replace lw := Below.only (lw.alloc lw.size _) o9 lw.size; have f0 := b9.cell (j := 0) rfl; have f1 := b9.cell (j := 1) rfl; have f2 := b9.cell (j := 2) rfl; have e0 := b3.cell (j := 0) rfl; have e1 := b3.cell (j := 1) rfl; have e2 := b3.cell (j := 2) rfl; clear o9))
      go_roundw
      case rel => exact ⟨1, by omega, by first | rfl | go_num, b2, b3, b4, lw⟩
      case measure => first | (simp [intOf]; done) | (simp [intOf]; omega)
    · have hix : ∀ w', (Instr.index 60 (.agg portsC.toArray) (.int .i64 1)).run Try.prog w' = .ok (.agg (portC 33 true 31).toArray) w' := fun w' => run_index_ports 1 (by omega) w'
      have n2 := Nat.ne_of_lt b2.lt
      have n3 := Nat.ne_of_lt b3.lt
      have n4 := Nat.ne_of_lt b4.lt
      go_wp2_with (first
        | ((with_reducible refine wpList_store_abs (o := ⟨none, .store 59 (.tmp 9) (.tmp 14), _, _, _, none⟩) rfl _ _ _ rfl wr.heap.size 59 [.int .i64 0, .bool false, .nilFunc] (portC 33 true 31) ?_ ?_ ?_ ?_ ?_ ?_ ?_); rfl; rfl; exact (Blk.new _ _ _ _ rfl); exact port_sz; rfl; exact port_one _ _ _; intro w1 b9 o9; replace b2 := (b2.alloc _).only o9 n2; replace b3 := (b3.alloc _).only o9 n3; replace b4 := (b4.alloc _).only o9 n4; replace lw := Below.only (lw.alloc lw.size _) o9 lw.size; have f0 := b9.cell (j := 0) rfl; have f1 := b9.cell (j := 1) rfl; have f2 := b9.cell (j := 2) rfl; have e0 := b3.cell (j := 0) rfl; have e1 := b3.cell (j := 1) rfl; have e2 := b3.cell (j := 2) rfl; clear o9))
      go_roundw
      case rel => exact ⟨2, by omega, by first | rfl | go_num, b2, b3, b4, lw⟩
      case measure => first | (simp [intOf]; done) | (simp [intOf]; omega)
    · have hix : ∀ w', (Instr.index 60 (.agg portsC.toArray) (.int .i64 2)).run Try.prog w' = .ok (.agg (portC 34 true 32).toArray) w' := fun w' => run_index_ports 2 (by omega) w'
      have n2 := Nat.ne_of_lt b2.lt
      have n3 := Nat.ne_of_lt b3.lt
      have n4 := Nat.ne_of_lt b4.lt
      go_wp2_with (first
        | ((with_reducible refine wpList_store_abs (o := ⟨none, .store 59 (.tmp 9) (.tmp 14), _, _, _, none⟩) rfl _ _ _ rfl wr.heap.size 59 [.int .i64 0, .bool false, .nilFunc] (portC 34 true 32) ?_ ?_ ?_ ?_ ?_ ?_ ?_); rfl; rfl; exact (Blk.new _ _ _ _ rfl); exact port_sz; rfl; exact port_one _ _ _; intro w1 b9 o9; replace b2 := (b2.alloc _).only o9 n2; replace b3 := (b3.alloc _).only o9 n3; replace b4 := (b4.alloc _).only o9 n4; replace lw := Below.only (lw.alloc lw.size _) o9 lw.size; have f0 := b9.cell (j := 0) rfl; have f1 := b9.cell (j := 1) rfl; have f2 := b9.cell (j := 2) rfl; have e0 := b3.cell (j := 0) rfl; have e1 := b3.cell (j := 1) rfl; have e2 := b3.cell (j := 2) rfl; clear o9))
      go_roundw
      case rel => exact ⟨3, by omega, by first | rfl | go_num, b2, b3, b4, lw⟩
      case measure => first | (simp [intOf]; done) | (simp [intOf]; omega)
    · go_wp2_with (first
        | ((with_reducible refine wpList_load_blk (o := ⟨some 41, .load 23 (.tmp 2), _, _, _, none⟩) rfl _ _ rfl w.heap.size 23 x.cells _ ?_ ?_ Try.underlying23 rfl (cn_sz _) ?_); rfl; exact b2)
        | ((with_reducible refine wpList_store_abs (o := ⟨none, .store 23 (.tmp 4) (.tmp 41), _, _, _, none⟩) rfl _ _ _ rfl (w.heap.size + 1 + 1) 23 zC.cells x.cells ?_ ?_ ?_ ?_ ?_ ?_ ?_); rfl; rfl; exact b4; exact cn_sz _; rfl; exact cn_one _; intro w9 b9 o9))
      exact bodyPost_ret (cn_ret4 Try.results13 _ _ (w.heap.size + 1 + 1) x (.int .u32 0) (.string noS) (.bool false) rfl rfl rfl rfl b9) rfl ⟨rfl, Below.only lw o9 (by omega)⟩
set_option maxRecDepth 100000 in
set_option maxHeartbeats 4000000 in
theorem port_nt (x : Cn) (p : Int) (h0 : ((32 : Int) == p) = false) (h1 : ((33 : Int) == p) = false) (h2 : ((34 : Int) == p) = false) (v : Int) (w : World) (_ : x.s.size ≤ 64) : Calls Try.prog 13 #[.agg x.cells.toArray, .agg #[.bool true, .int .i64 p, .int .u32 v]] w fun e w' => e = .returned (.tuple #[.agg x.cells.toArray, .int .u32 0, .string noS, .bool false]) ∧ Later w w' := by
  have b2 := (((Blk.new' w w.heap.size 23 (x.cells).toArray (x.cells) (by simp) rfl).alloc (.cells (ioC true p v).toArray 26)).alloc (.cells (zC.cells).toArray 23))
  have b3 := ((Blk.new' (w.alloc (.cells (x.cells).toArray 23)) (w.heap.size + 1) 26 (ioC true p v).toArray (ioC true p v) (by simp) rfl).alloc (.cells (zC.cells).toArray 23))
  have b4 := (Blk.new' ((w.alloc (.cells (x.cells).toArray 23)).alloc (.cells (ioC true p v).toArray 26)) (w.heap.size + 1 + 1) 23 (zC.cells).toArray (zC.cells) (by simp) rfl)
  have lw := (((later1 w (.cells (x.cells).toArray 23)).alloc (by simp; try omega) (.cells (ioC true p v).toArray 26)).alloc (by simp; try omega) (.cells (zC.cells).toArray 23))
  obtain ⟨u0, hu⟩ : ∃ u, (((w.alloc (.cells (x.cells).toArray 23)).alloc (.cells (ioC true p v).toArray 26)).alloc (.cells (zC.cells).toArray 23)) = u := ⟨_, rfl⟩
  rw [hu] at b2 b3 b4 lw
  have KP := Lib.hid fun w' => ports_any w'
  go_enter Try.func13, Try.ntmps13
  go_upto_region 1 with fail
  have hu2 : (((w.alloc (.cells (x.cells).toArray 23)).alloc (.cells #[.bool true, .int .i64 p, .int .u32 v] 26)).alloc (.cells #[.string ⟨#[]⟩, .int .i64 0] 23)) = u0 := hu
  try rw [hu2]
  clear hu hu2
  go_upto_region 2 with (first
    | (go_at_call 23; (with_reducible refine (KP.out _).mono ?_); rintro e w1 ⟨rfl, l1⟩; replace b2 := b2.keep l1; replace b3 := b3.keep l1; replace b4 := b4.keep l1; replace lw := Later.trans_ lw l1))
  go_loopw [12] (fun i wr => ∃ k : Nat, k ≤ 3 ∧ i = .int .i64 k ∧ Blk wr w.heap.size 23 x.cells ∧ Blk wr (w.heap.size + 1) 26 (ioC true p v) ∧ Blk wr (w.heap.size + 1 + 1) 23 zC.cells ∧ Later w wr) (fun i _ => 4 - (intOf i).toNat)
  case atStart => exact ⟨0, by omega, rfl, b2, b3, b4, lw⟩
  case round =>
    clear b2 b3 b4 lw
    obtain ⟨k, hk, rfl, b2, b3, b4, lw⟩ := hrel
    rcases (show k = 0 ∨ k = 1 ∨ k = 2 ∨ k = 3 by omega) with rfl | rfl | rfl | rfl
    · have hix : ∀ w', (Instr.index 60 (.agg portsC.toArray) (.int .i64 0)).run Try.prog w' = .ok (.agg (portC 32 false 30).toArray) w' := fun w' => run_index_ports 0 (by omega) w'
      have n2 := Nat.ne_of_lt b2.lt
      have n3 := Nat.ne_of_lt b3.lt
      have n4 := Nat.ne_of_lt b4.lt
      go_wp2_with (first
        | ((with_reducible refine wpList_store_abs (o := ⟨none, .store 59 (.tmp 9) (.tmp 14), _, _, _, none⟩) rfl _ _ _ rfl wr.heap.size 59 [.int .i64 0, .bool false, .nilFunc] (portC 32 false 30) ?_ ?_ ?_ ?_ ?_ ?_ ?_); rfl; rfl; exact (Blk.new _ _ _ _ rfl); exact port_sz; rfl; exact port_one _ _ _; intro w1 b9 o9; replace b2 := (b2.alloc _).only o9 n2; replace b3 := (b3.alloc _).only o9 n3; replace b4 := (b4.alloc _).only o9 n4; replace lw := Below.only (lw.alloc lw.size _) o9 lw.size; have f0 := b9.cell (j := 0) rfl; have f1 := b9.cell (j := 1) rfl; have f2 := b9.cell (j := 2) rfl; have e0 := b3.cell (j := 0) rfl; have e1 := b3.cell (j := 1) rfl; have e2 := b3.cell (j := 2) rfl; clear o9))
      go_roundw
      case rel => exact ⟨1, by omega, by first | rfl | go_num, b2, b3, b4, lw⟩
      case measure => first | (simp [intOf]; done) | (simp [intOf]; omega)
    · have hix : ∀ w', (Instr.index 60 (.agg portsC.toArray) (.int .i64 1)).run Try.prog w' = .ok (.agg (portC 33 true 31).toArray) w' := fun w' => run_index_ports 1 (by omega) w'
      have n2 := Nat.ne_of_lt b2.lt
      have n3 := Nat.ne_of_lt b3.lt
      have n4 := Nat.ne_of_lt b4.lt
      go_wp2_with (first
        | ((with_reducible refine wpList_store_abs (o := ⟨none, .store 59 (.tmp 9) (.tmp 14), _, _, _, none⟩) rfl _ _ _ rfl wr.heap.size 59 [.int .i64 0, .bool false, .nilFunc] (portC 33 true 31) ?_ ?_ ?_ ?_ ?_ ?_ ?_); rfl; rfl; exact (Blk.new _ _ _ _ rfl); exact port_sz; rfl; exact port_one _ _ _; intro w1 b9 o9; replace b2 := (b2.alloc _).only o9 n2; replace b3 := (b3.alloc _).only o9 n3; replace b4 := (b4.alloc _).only o9 n4; replace lw := Below.only (lw.alloc lw.size _) o9 lw.size; have f0 := b9.cell (j := 0) rfl; have f1 := b9.cell (j := 1) rfl; have f2 := b9.cell (j := 2) rfl; have e0 := b3.cell (j := 0) rfl; have e1 := b3.cell (j := 1) rfl; have e2 := b3.cell (j := 2) rfl; clear o9))
      go_roundw
      case rel => exact ⟨2, by omega, by first | rfl | go_num, b2, b3, b4, lw⟩
      case measure => first | (simp [intOf]; done) | (simp [intOf]; omega)
    · have hix : ∀ w', (Instr.index 60 (.agg portsC.toArray) (.int .i64 2)).run Try.prog w' = .ok (.agg (portC 34 true 32).toArray) w' := fun w' => run_index_ports 2 (by omega) w'
      have n2 := Nat.ne_of_lt b2.lt
      have n3 := Nat.ne_of_lt b3.lt
      have n4 := Nat.ne_of_lt b4.lt
      go_wp2_with (first
        | ((with_reducible refine wpList_store_abs (o := ⟨none, .store 59 (.tmp 9) (.tmp 14), _, _, _, none⟩) rfl _ _ _ rfl wr.heap.size 59 [.int .i64 0, .bool false, .nilFunc] (portC 34 true 32) ?_ ?_ ?_ ?_ ?_ ?_ ?_); rfl; rfl; exact (Blk.new _ _ _ _ rfl); exact port_sz; rfl; exact port_one _ _ _; intro w1 b9 o9; replace b2 := (b2.alloc _).only o9 n2; replace b3 := (b3.alloc _).only o9 n3; replace b4 := (b4.alloc _).only o9 n4; replace lw := Below.only (lw.alloc lw.size _) o9 lw.size; have f0 := b9.cell (j := 0) rfl; have f1 := b9.cell (j := 1) rfl; have f2 := b9.cell (j := 2) rfl; have e0 := b3.cell (j := 0) rfl; have e1 := b3.cell (j := 1) rfl; have e2 := b3.cell (j := 2) rfl; clear o9))
      go_roundw
      case rel => exact ⟨3, by omega, by first | rfl | go_num, b2, b3, b4, lw⟩
      case measure => first | (simp [intOf]; done) | (simp [intOf]; omega)
    · go_wp2_with (first
        | ((with_reducible refine wpList_load_blk (o := ⟨some 41, .load 23 (.tmp 2), _, _, _, none⟩) rfl _ _ rfl w.heap.size 23 x.cells _ ?_ ?_ Try.underlying23 rfl (cn_sz _) ?_); rfl; exact b2)
        | ((with_reducible refine wpList_store_abs (o := ⟨none, .store 23 (.tmp 4) (.tmp 41), _, _, _, none⟩) rfl _ _ _ rfl (w.heap.size + 1 + 1) 23 zC.cells x.cells ?_ ?_ ?_ ?_ ?_ ?_ ?_); rfl; rfl; exact b4; exact cn_sz _; rfl; exact cn_one _; intro w9 b9 o9))
      exact bodyPost_ret (cn_ret4 Try.results13 _ _ (w.heap.size + 1 + 1) x (.int .u32 0) (.string noS) (.bool false) rfl rfl rfl rfl b9) rfl ⟨rfl, Below.only lw o9 (by omega)⟩
set_option maxRecDepth 100000 in
set_option maxHeartbeats 4000000 in
theorem port_nf (x : Cn) (p : Int) (h0 : ((32 : Int) == p) = false) (h1 : ((33 : Int) == p) = false) (h2 : ((34 : Int) == p) = false) (v : Int) (w : World) (_ : x.s.size ≤ 64) : Calls Try.prog 13 #[.agg x.cells.toArray, .agg #[.bool false, .int .i64 p, .int .u32 v]] w fun e w' => e = .returned (.tuple #[.agg x.cells.toArray, .int .u32 0, .string noS, .bool false]) ∧ Later w w' := by
  have b2 := (((Blk.new' w w.heap.size 23 (x.cells).toArray (x.cells) (by simp) rfl).alloc (.cells (ioC false p v).toArray 26)).alloc (.cells (zC.cells).toArray 23))
  have b3 := ((Blk.new' (w.alloc (.cells (x.cells).toArray 23)) (w.heap.size + 1) 26 (ioC false p v).toArray (ioC false p v) (by simp) rfl).alloc (.cells (zC.cells).toArray 23))
  have b4 := (Blk.new' ((w.alloc (.cells (x.cells).toArray 23)).alloc (.cells (ioC false p v).toArray 26)) (w.heap.size + 1 + 1) 23 (zC.cells).toArray (zC.cells) (by simp) rfl)
  have lw := (((later1 w (.cells (x.cells).toArray 23)).alloc (by simp; try omega) (.cells (ioC false p v).toArray 26)).alloc (by simp; try omega) (.cells (zC.cells).toArray 23))
  obtain ⟨u0, hu⟩ : ∃ u, (((w.alloc (.cells (x.cells).toArray 23)).alloc (.cells (ioC false p v).toArray 26)).alloc (.cells (zC.cells).toArray 23)) = u := ⟨_, rfl⟩
  rw [hu] at b2 b3 b4 lw
  have KP := Lib.hid fun w' => ports_any w'
  go_enter Try.func13, Try.ntmps13
  go_upto_region 1 with fail
  have hu2 : (((w.alloc (.cells (x.cells).toArray 23)).alloc (.cells #[.bool false, .int .i64 p, .int .u32 v] 26)).alloc (.cells #[.string ⟨#[]⟩, .int .i64 0] 23)) = u0 := hu
  try rw [hu2]
  clear hu hu2
  go_upto_region 2 with (first
    | (go_at_call 23; (with_reducible refine (KP.out _).mono ?_); rintro e w1 ⟨rfl, l1⟩; replace b2 := b2.keep l1; replace b3 := b3.keep l1; replace b4 := b4.keep l1; replace lw := Later.trans_ lw l1))
  go_loopw [12] (fun i wr => ∃ k : Nat, k ≤ 3 ∧ i = .int .i64 k ∧ Blk wr w.heap.size 23 x.cells ∧ Blk wr (w.heap.size + 1) 26 (ioC false p v) ∧ Blk wr (w.heap.size + 1 + 1) 23 zC.cells ∧ Later w wr) (fun i _ => 4 - (intOf i).toNat)
  case atStart => exact ⟨0, by omega, rfl, b2, b3, b4, lw⟩
  case round =>
    clear b2 b3 b4 lw
    obtain ⟨k, hk, rfl, b2, b3, b4, lw⟩ := hrel
    rcases (show k = 0 ∨ k = 1 ∨ k = 2 ∨ k = 3 by omega) with rfl | rfl | rfl | rfl
    · have hix : ∀ w', (Instr.index 60 (.agg portsC.toArray) (.int .i64 0)).run Try.prog w' = .ok (.agg (portC 32 false 30).toArray) w' := fun w' => run_index_ports 0 (by omega) w'
      have n2 := Nat.ne_of_lt b2.lt
      have n3 := Nat.ne_of_lt b3.lt
      have n4 := Nat.ne_of_lt b4.lt
      go_wp2_with (first
        | ((with_reducible refine wpList_store_abs (o := ⟨none, .store 59 (.tmp 9) (.tmp 14), _, _, _, none⟩) rfl _ _ _ rfl wr.heap.size 59 [.int .i64 0, .bool false, .nilFunc] (portC 32 false 30) ?_ ?_ ?_ ?_ ?_ ?_ ?_); rfl; rfl; exact (Blk.new _ _ _ _ rfl); exact port_sz; rfl; exact port_one _ _ _; intro w1 b9 o9; replace b2 := (b2.alloc _).only o9 n2; replace b3 := (b3.alloc _).only o9 n3; replace b4 := (b4.alloc _).only o9 n4; replace lw := Below.only (lw.alloc lw.size _) o9 lw.size; have f0 := b9.cell (j := 0) rfl; have f1 := b9.cell (j := 1) rfl; have f2 := b9.cell (j := 2) rfl; have e0 := b3.cell (j := 0) rfl; have e1 := b3.cell (j := 1) rfl; have e2 := b3.cell (j := 2) rfl; clear o9))
      go_roundw
      case rel => exact ⟨1, by omega, by first | rfl | go_num, b2, b3, b4, lw⟩
      case measure => first | (simp [intOf]; done) | (simp [intOf]; omega)
    · have hix : ∀ w', (Instr.index 60 (.agg portsC.toArray) (.int .i64 1)).run Try.prog w' = .ok (.agg (portC 33 true 31).toArray) w' := fun w' => run_index_ports 1 (by omega) w'
      have n2 := Nat.ne_of_lt b2.lt
      have n3 := Nat.ne_of_lt b3.lt
      have n4 := Nat.ne_of_lt b4.lt
      go_wp2_with (first
        | ((with_reducible refine wpList_store_abs (o := ⟨none, .store 59 (.tmp 9) (.tmp 14), _, _, _, none⟩) rfl _ _ _ rfl wr.heap.size 59 [.int .i64 0, .bool false, .nilFunc] (portC 33 true 31) ?_ ?_ ?_ ?_ ?_ ?_ ?_); rfl; rfl; exact (Blk.new _ _ _ _ rfl); exact port_sz; rfl; exact port_one _ _ _; intro w1 b9 o9; replace b2 := (b2.alloc _).only o9 n2; replace b3 := (b3.alloc _).only o9 n3; replace b4 := (b4.alloc _).only o9 n4; replace lw := Below.only (lw.alloc lw.size _) o9 lw.size; have f0 := b9.cell (j := 0) rfl; have f1 := b9.cell (j := 1) rfl; have f2 := b9.cell (j := 2) rfl; have e0 := b3.cell (j := 0) rfl; have e1 := b3.cell (j := 1) rfl; have e2 := b3.cell (j := 2) rfl; clear o9))
      go_roundw
      case rel => exact ⟨2, by omega, by first | rfl | go_num, b2, b3, b4, lw⟩
      case measure => first | (simp [intOf]; done) | (simp [intOf]; omega)
    · have hix : ∀ w', (Instr.index 60 (.agg portsC.toArray) (.int .i64 2)).run Try.prog w' = .ok (.agg (portC 34 true 32).toArray) w' := fun w' => run_index_ports 2 (by omega) w'
      have n2 := Nat.ne_of_lt b2.lt
      have n3 := Nat.ne_of_lt b3.lt
      have n4 := Nat.ne_of_lt b4.lt
      go_wp2_with (first
        | ((with_reducible refine wpList_store_abs (o := ⟨none, .store 59 (.tmp 9) (.tmp 14), _, _, _, none⟩) rfl _ _ _ rfl wr.heap.size 59 [.int .i64 0, .bool false, .nilFunc] (portC 34 true 32) ?_ ?_ ?_ ?_ ?_ ?_ ?_); rfl; rfl; exact (Blk.new _ _ _ _ rfl); exact port_sz; rfl; exact port_one _ _ _; intro w1 b9 o9; replace b2 := (b2.alloc _).only o9 n2; replace b3 := (b3.alloc _).only o9 n3; replace b4 := (b4.alloc _).only o9 n4; replace lw := Below.only (lw.alloc lw.size _) o9 lw.size; have f0 := b9.cell (j := 0) rfl; have f1 := b9.cell (j := 1) rfl; have f2 := b9.cell (j := 2) rfl; have e0 := b3.cell (j := 0) rfl; have e1 := b3.cell (j := 1) rfl; have e2 := b3.cell (j := 2) rfl; clear o9))
      go_roundw
      case rel => exact ⟨3, by omega, by first | rfl | go_num, b2, b3, b4, lw⟩
      case measure => first | (simp [intOf]; done) | (simp [intOf]; omega)
    · go_wp2_with (first
        | ((with_reducible refine wpList_load_blk (o := ⟨some 41, .load 23 (.tmp 2), _, _, _, none⟩) rfl _ _ rfl w.heap.size 23 x.cells _ ?_ ?_ Try.underlying23 rfl (cn_sz _) ?_); rfl; exact b2)
        | ((with_reducible refine wpList_store_abs (o := ⟨none, .store 23 (.tmp 4) (.tmp 41), _, _, _, none⟩) rfl _ _ _ rfl (w.heap.size + 1 + 1) 23 zC.cells x.cells ?_ ?_ ?_ ?_ ?_ ?_ ?_); rfl; rfl; exact b4; exact cn_sz _; rfl; exact cn_one _; intro w9 b9 o9))
      exact bodyPost_ret (cn_ret4 Try.results13 _ _ (w.heap.size + 1 + 1) x (.int .u32 0) (.string noS) (.bool false) rfl rfl rfl rfl b9) rfl ⟨rfl, Below.only lw o9 (by omega)⟩
end Go.Proofs.Ytkhgaikfomcjeaa
