/-
  A CONSOLE: the reference's Feed and Port.
-/
import Derived.Test.YtkhgaikfomcjeaaConD
import Derived.Deep.RegionHeld
import Derived.Lib.Hide
namespace Go.Proofs.Ytkhgaikfomcjeaa
open Go.RowKit Go.ChangeShapes Go.WideShapes Go.ChangeAt

def fdC (x : Cn) (b : Bool) : List Value := x.cells ++ [.bool b]
def dnC (x : Cn) (v : Int) (o : ByteArray) (b : Bool) : List Value := x.cells ++ [.int .u32 v, .string o, .bool b]
theorem fd_sz (x : Cn) (b : Bool) : (Try.prog.info? 36).map (·.size) = some (fdC x b).length := by
  show _ = some 3
  kernel_rfl
theorem dn_sz (x : Cn) (v : Int) (o : ByteArray) (b : Bool) : (Try.prog.info? 39).map (·.size) = some (dnC x v o b).length := by
  show _ = some 5
  kernel_rfl
theorem fd_one (x : Cn) (b : Bool) : ∀ u ∈ fdC x b, u.oneCell' = true := by
  intro u hu
  simp only [fdC, Cn.cells, List.cons_append, List.nil_append, List.mem_cons, List.not_mem_nil, or_false] at hu
  rcases hu with rfl | rfl | rfl <;> rfl
theorem dn_one (x : Cn) (v : Int) (o : ByteArray) (b : Bool) : ∀ u ∈ dnC x v o b, u.oneCell' = true := by
  intro u hu
  simp only [dnC, Cn.cells, List.cons_append, List.nil_append, List.mem_cons, List.not_mem_nil, or_false] at hu
  rcases hu with rfl | rfl | rfl | rfl | rfl <;> rfl
theorem fd_ret {fn : Func} {p : Tmp} (h : fn.results = #[.cell p 36]) (tmps : Array Value) (w : World) (B : Nat) (x : Cn) (b : Bool) (hp : tmps.getD p undef = .pointer (some ⟨B, 0, none⟩)) (hb : Blk w B 36 (fdC x b)) :
    (results fn tmps).run Try.prog w = .ok (.agg (fdC x b).toArray) w :=
  results_blk h tmps w B 36 _ _ hp hb Try.underlying36 rfl (fd_sz _ _)
theorem dn_ret {fn : Func} {p : Tmp} (h : fn.results = #[.cell p 39]) (tmps : Array Value) (w : World) (B : Nat) (x : Cn) (v : Int) (o : ByteArray) (b : Bool) (hp : tmps.getD p undef = .pointer (some ⟨B, 0, none⟩)) (hb : Blk w B 39 (dnC x v o b)) :
    (results fn tmps).run Try.prog w = .ok (.agg (dnC x v o b).toArray) w :=
  results_blk h tmps w B 39 _ _ hp hb Try.underlying39 rfl (dn_sz _ _ _ _)
theorem run_cn (s : ByteArray) (n : Int) (w : World) : (Instr.build 23 #[(0, .string s), (1, .int .i64 n)]).run Try.prog w = .ok (.agg (⟨s, n⟩ : Cn).cells.toArray) w := run_build w _ _ _ (by kernel_rfl)
theorem run_fd0 (x : Cn) (w : World) : (Instr.build 36 #[(0, .agg x.cells.toArray)]).run Try.prog w = .ok (.agg (fdC x false).toArray) w := run_build w _ _ _ (by kernel_rfl)
theorem run_fd1 (x : Cn) (w : World) : (Instr.build 36 #[(0, .agg x.cells.toArray), (1, .bool true)]).run Try.prog w = .ok (.agg (fdC x true).toArray) w := run_build w _ _ _ (by kernel_rfl)
theorem run_dn0 (x : Cn) (w : World) : (Instr.build 39 #[(0, .agg x.cells.toArray)]).run Try.prog w = .ok (.agg (dnC x 0 noS false).toArray) w := run_build w _ _ _ (by kernel_rfl)
theorem run_dnO (x : Cn) (s : ByteArray) (w : World) : (Instr.build 39 #[(0, .agg x.cells.toArray), (2, .string s), (3, .bool true)]).run Try.prog w = .ok (.agg (dnC x 0 s true).toArray) w := run_build w _ _ _ (by kernel_rfl)
theorem run_dnV (x : Cn) (v : Int) (w : World) : (Instr.build 39 #[(0, .agg x.cells.toArray), (1, .int .u32 v), (3, .bool true)]).run Try.prog w = .ok (.agg (dnC x v noS true).toArray) w := run_build w _ _ _ (by kernel_rfl)
theorem nil_S {s : ByteArray} (h : s.size = 0) : s = noS := by
  apply ByteArray.ext
  apply Array.ext'
  have h1 : s.data.size = 0 := h
  show s.data.toList = []
  exact List.eq_nil_of_length_eq_zero (by rw [Array.length_toList]; exact h1)
set_option maxRecDepth 100000 in
set_option maxHeartbeats 2000000 in
theorem rfeed_any (x : Cn) (b : Int) (w : World) (h0 : 0 ≤ x.n) (h1 : x.n ≤ 1099511627776) : Calls Try.prog 14 #[.agg x.cells.toArray, .int .u8 b] w fun e w' => e = .returned (.agg (fdC (x.feedC b) x.fed).toArray) ∧ Later w w' := by
  by_cases hf : 64 ≤ x.s.size
  · have d1 : decide ((64 : Int) ≤ (x.s.size : Int)) = true := decide_eq_true (by omega)
    rw [show x.feedC b = ⟨x.s, min (x.n + 1) 1099511627776⟩ from if_pos hf, show x.fed = false from by unfold Cn.fed; rw [decide_eq_true hf]; rfl]
    have a1 : IntKind.i64.wrap (x.n + 1) = x.n + 1 := by rw [IntKind.wrap_i64]; omega
    obtain ⟨m, hm⟩ : ∃ m, (if 1099511627776 < x.n + 1 then (1099511627776 : Int) else x.n + 1) = m := ⟨_, rfl⟩
    rw [show min (x.n + 1) 1099511627776 = m from by rw [← hm]; split <;> omega]
    have b2 := ((Blk.new' w w.heap.size 23 (x.cells).toArray (x.cells) (by simp) rfl).alloc (.cells (fdC zC false).toArray 36))
    have b4 := (Blk.new' (w.alloc (.cells (x.cells).toArray 23)) (w.heap.size + 1) 36 (fdC zC false).toArray (fdC zC false) (by simp) rfl)
    have lw := ((later1 w (.cells (x.cells).toArray 23)).alloc (by simp; try omega) (.cells (fdC zC false).toArray 36))
    obtain ⟨u0, hu⟩ : ∃ u, ((w.alloc (.cells (x.cells).toArray 23)).alloc (.cells (fdC zC false).toArray 36)) = u := ⟨_, rfl⟩
    rw [hu] at b2 b4 lw
    clear hf
    go_enter Try.func14, Try.ntmps14
    go_upto_region 1 with fail
    have hu2 : ((w.alloc (.cells (x.cells).toArray 23)).alloc (.cells #[.string ⟨#[]⟩, .int .i64 0, .bool false] 36)) = u0 := hu
    try rw [hu2]
    clear hu hu2
    have e0 := b2.cell (cn_s x)
    have e1 := b2.cell (cn_n x)
    go_wp2_with (first
      | ((with_reducible refine wpList_bld (o := ⟨some 15, .build 23 #[(0, .tmp 10), (1, .tmp 14)], _, _, _, none⟩) rfl _ #[(0, .tmp 10), (1, .tmp 14)] #[(0, .string x.s), (1, .int .i64 m)] ((⟨x.s, m⟩ : Cn).cells).toArray rfl ?_ (run_cn x.s m _) ?_); rfl)
      | ((with_reducible refine wpList_bld (o := ⟨some 16, .build 36 #[(0, .tmp 15)], _, _, _, none⟩) rfl _ #[(0, .tmp 15)] #[(0, .agg (⟨x.s, m⟩ : Cn).cells.toArray)] (fdC (⟨x.s, m⟩ : Cn) false).toArray rfl ?_ (run_fd0 (⟨x.s, m⟩ : Cn) _) ?_); rfl)
      | ((with_reducible refine wpList_store_abs (o := ⟨none, .store 36 (.tmp 4) (.tmp 16), _, _, _, none⟩) rfl _ _ _ rfl (w.heap.size + 1) 36 (fdC zC false) (fdC (⟨x.s, m⟩ : Cn) false) ?_ ?_ ?_ ?_ ?_ ?_ ?_); rfl; rfl; exact b4; exact (fd_sz _ _); rfl; exact fd_one _ _; intro w9 b9 o9))
    exact bodyPost_ret (fd_ret Try.results14 _ _ (w.heap.size + 1) (⟨x.s, m⟩ : Cn) false rfl b9) rfl ⟨rfl, Below.only lw o9 (by omega)⟩
  · have d1 : decide ((64 : Int) ≤ (x.s.size : Int)) = false := decide_eq_false (by omega)
    rw [show x.feedC b = (⟨x.s ++ one b, x.n⟩ : Cn) from if_neg hf, show x.fed = true from by unfold Cn.fed; rw [decide_eq_false hf]; rfl]
    have hz : x.s.size ≤ 64 := by omega
    have hz1 : (one b).size = 1 := rfl
    have b2 := ((Blk.new' w w.heap.size 23 (x.cells).toArray (x.cells) (by simp) rfl).alloc (.cells (fdC zC false).toArray 36))
    have b4 := (Blk.new' (w.alloc (.cells (x.cells).toArray 23)) (w.heap.size + 1) 36 (fdC zC false).toArray (fdC zC false) (by simp) rfl)
    have lw := ((later1 w (.cells (x.cells).toArray 23)).alloc (by simp; try omega) (.cells (fdC zC false).toArray 36))
    obtain ⟨u0, hu⟩ : ∃ u, ((w.alloc (.cells (x.cells).toArray 23)).alloc (.cells (fdC zC false).toArray 36)) = u := ⟨_, rfl⟩
    rw [hu] at b2 b4 lw
    go_enter Try.func14, Try.ntmps14
    go_upto_region 1 with fail
    have hu2 : ((w.alloc (.cells (x.cells).toArray 23)).alloc (.cells #[.string ⟨#[]⟩, .int .i64 0, .bool false] 36)) = u0 := hu
    try rw [hu2]
    clear hu hu2
    have hc := conv_one b u0
    have c0 := b2.cell (cn_s x)
    have n2 := Nat.ne_of_lt b2.lt
    have e1 := (b2.alloc (.cells #[.int .u8 b] 5)).cell (cn_n x)
    replace b4 := b4.alloc (.cells #[.int .u8 b] 5)
    replace lw := lw.alloc lw.size (.cells #[.int .u8 b] 5)
    have c1 := b2.cell (cn_n x)
    go_wp2_with (first
      | ((with_reducible refine wpList_bld (o := ⟨some 25, .build 23 #[(0, .tmp 22), (1, .tmp 24)], _, _, _, none⟩) rfl _ #[(0, .tmp 22), (1, .tmp 24)] #[(0, .string (x.s ++ one b)), (1, .int .i64 x.n)] ((⟨(x.s ++ one b), x.n⟩ : Cn).cells).toArray rfl ?_ (run_cn (x.s ++ one b) x.n _) ?_); rfl)
      | ((with_reducible refine wpList_bld (o := ⟨some 26, .build 36 #[(0, .tmp 25), (1, .const (.bool true))], _, _, _, none⟩) rfl _ #[(0, .tmp 25), (1, .const (.bool true))] #[(0, .agg (⟨x.s ++ one b, x.n⟩ : Cn).cells.toArray), (1, .bool true)] (fdC (⟨x.s ++ one b, x.n⟩ : Cn) true).toArray rfl ?_ (run_fd1 (⟨x.s ++ one b, x.n⟩ : Cn) _) ?_); rfl)
      | ((with_reducible refine wpList_store_abs (o := ⟨none, .store 36 (.tmp 4) (.tmp 26), _, _, _, none⟩) rfl _ _ _ rfl (w.heap.size + 1) 36 (fdC zC false) (fdC (⟨x.s ++ one b, x.n⟩ : Cn) true) ?_ ?_ ?_ ?_ ?_ ?_ ?_); rfl; rfl; exact b4; exact (fd_sz _ _); rfl; exact fd_one _ _; intro w9 b9 o9))
    exact bodyPost_ret (fd_ret Try.results14 _ _ (w.heap.size + 1) (⟨x.s ++ one b, x.n⟩ : Cn) true rfl b9) rfl ⟨rfl, Below.only lw o9 (by omega)⟩
set_option maxRecDepth 100000 in
set_option maxHeartbeats 4000000 in
theorem rport_put (x : Cn) (v : Int) (w : World) (_ : x.s.size ≤ 64) : Calls Try.prog 15 #[.agg x.cells.toArray, .agg #[.bool false, .int .i64 32, .int .u32 v]] w fun e w' => e = .returned (.agg (dnC x 0 (one (v % 256)) true).toArray) ∧ Later w w' := by
  have b2 := (((Blk.new' w w.heap.size 23 (x.cells).toArray (x.cells) (by simp) rfl).alloc (.cells (ioC false 32 v).toArray 26)).alloc (.cells (dnC zC 0 noS false).toArray 39))
  have b3 := ((Blk.new' (w.alloc (.cells (x.cells).toArray 23)) (w.heap.size + 1) 26 (ioC false 32 v).toArray (ioC false 32 v) (by simp) rfl).alloc (.cells (dnC zC 0 noS false).toArray 39))
  have b4 := (Blk.new' ((w.alloc (.cells (x.cells).toArray 23)).alloc (.cells (ioC false 32 v).toArray 26)) (w.heap.size + 1 + 1) 39 (dnC zC 0 noS false).toArray (dnC zC 0 noS false) (by simp) rfl)
  have lw := (((later1 w (.cells (x.cells).toArray 23)).alloc (by simp; try omega) (.cells (ioC false 32 v).toArray 26)).alloc (by simp; try omega) (.cells (dnC zC 0 noS false).toArray 39))
  obtain ⟨u0, hu⟩ : ∃ u, (((w.alloc (.cells (x.cells).toArray 23)).alloc (.cells (ioC false 32 v).toArray 26)).alloc (.cells (dnC zC 0 noS false).toArray 39)) = u := ⟨_, rfl⟩
  rw [hu] at b2 b3 b4 lw
  go_enter Try.func15, Try.ntmps15
  go_upto_region 1 with fail
  have hu2 : (((w.alloc (.cells (x.cells).toArray 23)).alloc (.cells #[.bool false, .int .i64 32, .int .u32 v] 26)).alloc (.cells #[.string ⟨#[]⟩, .int .i64 0, .int .u32 0, .string ⟨#[]⟩, .bool false] 39)) = u0 := hu
  try rw [hu2]
  clear hu hu2
  have e0 := b3.cell (j := 0) rfl
  have e1 := b3.cell (j := 1) rfl
  have e2 := b3.cell (j := 2) rfl
  have c0 := b2.cell (cn_s x)
  have c1 := b2.cell (cn_n x)
  have hc := conv_one (v % 256) u0
  have n2 := Nat.ne_of_lt b2.lt
  have n4 := Nat.ne_of_lt b4.lt
  replace b4 := b4.alloc (.cells #[.int .u8 (v % 256)] 5)
  replace lw := lw.alloc lw.size (.cells #[.int .u8 (v % 256)] 5)
  go_wp2_with (first
    | ((with_reducible refine wpList_load_blk (o := ⟨some 13, .load 23 (.tmp 2), _, _, _, none⟩) rfl _ _ rfl w.heap.size 23 x.cells _ ?_ ?_ Try.underlying23 rfl (cn_sz _) ?_); rfl; exact b2)
    | ((with_reducible refine wpList_bld (o := ⟨some 19, .build 39 #[(0, .tmp 13), (2, .tmp 18), (3, .const (.bool true))], _, _, _, none⟩) rfl _ #[(0, .tmp 13), (2, .tmp 18), (3, .const (.bool true))] #[(0, .agg x.cells.toArray), (2, .string (one (v % 256))), (3, .bool true)] (dnC x 0 (one (v % 256)) true).toArray rfl ?_ (run_dnO x (one (v % 256)) _) ?_); rfl)
    | ((with_reducible refine wpList_store_abs (o := ⟨none, .store 39 (.tmp 4) (.tmp 19), _, _, _, none⟩) rfl _ _ _ rfl (w.heap.size + 1 + 1) 39 (dnC zC 0 noS false) (dnC x 0 (one (v % 256)) true) ?_ ?_ ?_ ?_ ?_ ?_ ?_); rfl; rfl; exact b4; exact (dn_sz _ _ _ _); rfl; exact dn_one _ _ _ _; intro w9 b9 o9))
  exact bodyPost_ret (dn_ret Try.results15 _ _ (w.heap.size + 1 + 1) x 0 (one (v % 256)) true rfl b9) rfl ⟨rfl, Below.only lw o9 (by omega)⟩
set_option maxRecDepth 100000 in
set_option maxHeartbeats 4000000 in
theorem rport_take (x : Cn) (v : Int) (w : World) (_ : x.s.size ≤ 64) : Calls Try.prog 15 #[.agg x.cells.toArray, .agg #[.bool true, .int .i64 33, .int .u32 v]] w fun e w' => e = .returned (.agg (dnC (⟨restS x.s, x.n⟩ : Cn) (firstV x.s) noS true).toArray) ∧ Later w w' := by
  have b2 := (((Blk.new' w w.heap.size 23 (x.cells).toArray (x.cells) (by simp) rfl).alloc (.cells (ioC true 33 v).toArray 26)).alloc (.cells (dnC zC 0 noS false).toArray 39))
  have b3 := ((Blk.new' (w.alloc (.cells (x.cells).toArray 23)) (w.heap.size + 1) 26 (ioC true 33 v).toArray (ioC true 33 v) (by simp) rfl).alloc (.cells (dnC zC 0 noS false).toArray 39))
  have b4 := (Blk.new' ((w.alloc (.cells (x.cells).toArray 23)).alloc (.cells (ioC true 33 v).toArray 26)) (w.heap.size + 1 + 1) 39 (dnC zC 0 noS false).toArray (dnC zC 0 noS false) (by simp) rfl)
  have lw := (((later1 w (.cells (x.cells).toArray 23)).alloc (by simp; try omega) (.cells (ioC true 33 v).toArray 26)).alloc (by simp; try omega) (.cells (dnC zC 0 noS false).toArray 39))
  obtain ⟨u0, hu⟩ : ∃ u, (((w.alloc (.cells (x.cells).toArray 23)).alloc (.cells (ioC true 33 v).toArray 26)).alloc (.cells (dnC zC 0 noS false).toArray 39)) = u := ⟨_, rfl⟩
  rw [hu] at b2 b3 b4 lw
  by_cases h : 0 < x.s.size
  · have hI := run_first x.s h
    have hr := firstV_r x.s h
    have hs1 : (1 : Int) ≤ (x.s.size : Int) := by omega
    have hs0 : ((x.s.size : Int) == 0) = false := beq_false_of_ne (by omega)
    have a1 : IntKind.u32.wrap (firstV x.s) = firstV x.s := by rw [IntKind.wrap_u32]; omega
    have a2 : firstV x.s % 4294967296 = firstV x.s := by omega
    go_enter Try.func15, Try.ntmps15
    go_upto_region 1 with fail
    have hu2 : (((w.alloc (.cells (x.cells).toArray 23)).alloc (.cells #[.bool true, .int .i64 33, .int .u32 v] 26)).alloc (.cells #[.string ⟨#[]⟩, .int .i64 0, .int .u32 0, .string ⟨#[]⟩, .bool false] 39)) = u0 := hu
    try rw [hu2]
    clear hu hu2
    have e0 := b3.cell (j := 0) rfl
    have e1 := b3.cell (j := 1) rfl
    have e2 := b3.cell (j := 2) rfl
    have c0 := b2.cell (cn_s x)
    have c1 := b2.cell (cn_n x)
    go_upto_region 6 with fail
    clear e0 e1 e2 c0 c1
    replace b2 := b2.drew
    replace b4 := b4.drew
    replace lw := lw.drew
    refine wp_region_held_drew (S := fun w' => w'.cell? ⟨w.heap.size, 0, none⟩ = some (.string x.s) ∧ w'.cell? ⟨w.heap.size, 1, none⟩ = some (.int .i64 x.n)) (by kernel_rfl) ⟨b2.cell (cn_s x), b2.cell (cn_n x)⟩ (fun hHeld => ?_)
    refine wpAnyH_take (i := 0) (oi := ⟨some 33, .fieldAddr 23 (.tmp 2) 0, _, _, _, none⟩) (v := .pointer (some ⟨w.heap.size, 0, none⟩)) rfl (by kernel_rfl) (by kernel_rfl) (by kernel_rfl) (fun _ _ _ h => h) (Or.inl ⟨by rfl, fun w _ => by go_simp⟩) hHeld ?_
    simp only [Act.put, List.setIfInBounds_toArray, List.set_cons_zero, List.set_cons_succ]
    refine wpAnyH_take (i := 1) (oi := ⟨some 34, .load 9 (.tmp 33), _, _, _, none⟩) (v := .string x.s) rfl (by kernel_rfl) (by kernel_rfl) (by kernel_rfl) (fun _ _ _ h => h) (Or.inl ⟨by rfl, fun w hSw => by have e1 := hSw.1; clear hSw; go_simp⟩) hHeld ?_
    simp only [Act.put, List.setIfInBounds_toArray, List.set_cons_zero, List.set_cons_succ]
    refine wpAnyH_take (i := 2) (oi := ⟨some 35, .slice 9 (.tmp 34) (some (.const (.int .i64 1))) none none, _, _, _, none⟩) (v := .string (restS x.s)) rfl (by kernel_rfl) (by kernel_rfl) (by kernel_rfl) (fun _ _ _ h => h) (Or.inl ⟨by rfl, fun w _ => by go_simp; rfl⟩) hHeld ?_
    simp only [Act.put, List.setIfInBounds_toArray, List.set_cons_zero, List.set_cons_succ]
    refine wpAnyH_take (i := 3) (oi := ⟨some 36, .fieldAddr 23 (.tmp 2) 1, _, _, _, none⟩) (v := .pointer (some ⟨w.heap.size, 1, none⟩)) rfl (by kernel_rfl) (by kernel_rfl) (by kernel_rfl) (fun _ _ _ h => h) (Or.inl ⟨by rfl, fun w _ => by go_simp⟩) hHeld ?_
    simp only [Act.put, List.setIfInBounds_toArray, List.set_cons_zero, List.set_cons_succ]
    refine wpAnyH_take (i := 4) (oi := ⟨some 37, .load 3 (.tmp 36), _, _, _, none⟩) (v := .int .i64 x.n) rfl (by kernel_rfl) (by kernel_rfl) (by kernel_rfl) (fun _ _ _ h => h) (Or.inl ⟨by rfl, fun w hSw => by have e1 := hSw.2; clear hSw; go_simp⟩) hHeld ?_
    simp only [Act.put, List.setIfInBounds_toArray, List.set_cons_zero, List.set_cons_succ]
    refine wpAnyH_take (i := 5) (oi := ⟨some 38, .build 23 #[(0, .tmp 35), (1, .tmp 37)], _, _, _, none⟩) (v := .agg (⟨restS x.s, x.n⟩ : Cn).cells.toArray) rfl (by kernel_rfl) (by kernel_rfl) (by kernel_rfl) (fun _ _ _ h => h) (yieldsIf_build (by rfl) _ _ #[(0, .string (restS x.s)), (1, .int .i64 x.n)] _ rfl rfl (run_cn _ _)) hHeld ?_
    simp only [Act.put, List.setIfInBounds_toArray, List.set_cons_zero, List.set_cons_succ]
    refine wpAnyH_take (i := 6) (oi := ⟨some 39, .fieldAddr 23 (.tmp 2) 0, _, _, _, none⟩) (v := .pointer (some ⟨w.heap.size, 0, none⟩)) rfl (by kernel_rfl) (by kernel_rfl) (by kernel_rfl) (fun _ _ _ h => h) (Or.inl ⟨by rfl, fun w _ => by go_simp⟩) hHeld ?_
    simp only [Act.put, List.setIfInBounds_toArray, List.set_cons_zero, List.set_cons_succ]
    refine wpAnyH_take (i := 7) (oi := ⟨some 40, .load 9 (.tmp 39), _, _, _, none⟩) (v := .string x.s) rfl (by kernel_rfl) (by kernel_rfl) (by kernel_rfl) (fun _ _ _ h => h) (Or.inl ⟨by rfl, fun w hSw => by have e1 := hSw.1; clear hSw; go_simp⟩) hHeld ?_
    simp only [Act.put, List.setIfInBounds_toArray, List.set_cons_zero, List.set_cons_succ]
    refine wpAnyH_take (i := 8) (oi := ⟨some 41, .index 9 (.tmp 40) (.const (.int .i64 0)), _, _, _, none⟩) (v := .int .u8 (firstV x.s)) rfl (by kernel_rfl) (by kernel_rfl) (by kernel_rfl) (fun _ _ _ h => h) (Or.inl ⟨by rfl, fun w _ => by have e1 := hI w; go_simp⟩) hHeld ?_
    simp only [Act.put, List.setIfInBounds_toArray, List.set_cons_zero, List.set_cons_succ]
    refine wpAnyH_take (i := 9) (oi := ⟨some 42, .convert 5 24 (.tmp 41), _, _, _, none⟩) (v := .int .u32 (firstV x.s)) rfl (by kernel_rfl) (by kernel_rfl) (by kernel_rfl) (fun _ _ _ h => h) (Or.inl ⟨by rfl, fun w _ => by go_simp⟩) hHeld ?_
    simp only [Act.put, List.setIfInBounds_toArray, List.set_cons_zero, List.set_cons_succ]
    refine wpAnyH_take (i := 10) (oi := ⟨some 43, .build 39 #[(0, .tmp 38), (1, .tmp 42), (3, .const (.bool true))], _, _, _, none⟩) (v := .agg (dnC (⟨restS x.s, x.n⟩ : Cn) (firstV x.s) noS true).toArray) rfl (by kernel_rfl) (by kernel_rfl) (by kernel_rfl) (fun _ _ _ h => h) (yieldsIf_build (by rfl) _ _ #[(0, .agg (⟨restS x.s, x.n⟩ : Cn).cells.toArray), (1, .int .u32 (firstV x.s)), (3, .bool true)] _ rfl rfl (run_dnV _ _)) hHeld ?_
    simp only [Act.put, List.setIfInBounds_toArray, List.set_cons_zero, List.set_cons_succ]
    refine wpAnyH_ready (rs := [11]) (by kernel_rfl) (by simp) (AllReadyH.cons (o := ⟨none, .store 39 (.tmp 4) (.tmp 43), _, _, _, none⟩) rfl (fun K' hK => ?_) (AllReadyH.nil))
    refine wp_store_blk 39 _ _ rfl (w.heap.size + 1 + 1) 39 (dnC zC 0 noS false) (dnC (⟨restS x.s, x.n⟩ : Cn) (firstV x.s) noS true) rfl rfl b4 (dn_sz _ _ _ _) rfl (dn_one _ _ _ _) ?_
    intro w9 b9 o9
    replace b2 := b2.only o9 (by omega)
    refine hK.out _ _ ⟨b2.cell (cn_s x), b2.cell (cn_n x)⟩ (fun hHeld => ?_)
    clear hK K'
    try simp only [Act.put]
    refine wpAnyH_done (by kernel_rfl) ?_ _
    clear hHeld
    go_wp2
    exact bodyPost_ret (dn_ret Try.results15 _ _ (w.heap.size + 1 + 1) (⟨restS x.s, x.n⟩ : Cn) (firstV x.s) noS true rfl b9) rfl ⟨rfl, Below.only lw o9 (by omega)⟩
  · have hn := nil_S (s := x.s) (by omega)
    have hs0 : ((x.s.size : Int) == 0) = true := by rw [show x.s.size = 0 by omega]; rfl
    rw [show firstV x.s = 4294967295 from dif_neg h, show (⟨restS x.s, x.n⟩ : Cn) = x from by rw [restS_nil x.s h]; rw [← hn]]
    clear hn
    go_enter Try.func15, Try.ntmps15
    go_upto_region 1 with fail
    have hu2 : (((w.alloc (.cells (x.cells).toArray 23)).alloc (.cells #[.bool true, .int .i64 33, .int .u32 v] 26)).alloc (.cells #[.string ⟨#[]⟩, .int .i64 0, .int .u32 0, .string ⟨#[]⟩, .bool false] 39)) = u0 := hu
    try rw [hu2]
    clear hu hu2
    have e0 := b3.cell (j := 0) rfl
    have e1 := b3.cell (j := 1) rfl
    have e2 := b3.cell (j := 2) rfl
    have c0 := b2.cell (cn_s x)
    have c1 := b2.cell (cn_n x)
    go_wp2_with (first
      | ((with_reducible refine wpList_load_blk (o := ⟨some 31, .load 23 (.tmp 2), _, _, _, none⟩) rfl _ _ rfl w.heap.size 23 x.cells _ ?_ ?_ Try.underlying23 rfl (cn_sz _) ?_); rfl; exact b2)
      | ((with_reducible refine wpList_bld (o := ⟨some 32, .build 39 #[(0, .tmp 31), (1, .const (.int .u32 4294967295)), (3, .const (.bool true))], _, _, _, none⟩) rfl _ #[(0, .tmp 31), (1, .const (.int .u32 4294967295)), (3, .const (.bool true))] #[(0, .agg x.cells.toArray), (1, .int .u32 4294967295), (3, .bool true)] (dnC x 4294967295 noS true).toArray rfl ?_ (run_dnV x 4294967295 _) ?_); rfl)
      | ((with_reducible refine wpList_store_abs (o := ⟨none, .store 39 (.tmp 4) (.tmp 32), _, _, _, none⟩) rfl _ _ _ rfl (w.heap.size + 1 + 1) 39 (dnC zC 0 noS false) (dnC x 4294967295 noS true) ?_ ?_ ?_ ?_ ?_ ?_ ?_); rfl; rfl; exact b4; exact (dn_sz _ _ _ _); rfl; exact dn_one _ _ _ _; intro w9 b9 o9))
    exact bodyPost_ret (dn_ret Try.results15 _ _ (w.heap.size + 1 + 1) x 4294967295 noS true rfl b9) rfl ⟨rfl, Below.only lw o9 (by omega)⟩
set_option maxRecDepth 100000 in
set_option maxHeartbeats 4000000 in
theorem rport_count (x : Cn) (v : Int) (w : World) (hz : x.s.size ≤ 64) : Calls Try.prog 15 #[.agg x.cells.toArray, .agg #[.bool true, .int .i64 34, .int .u32 v]] w fun e w' => e = .returned (.agg (dnC x (x.s.size : Int) noS true).toArray) ∧ Later w w' := by
  have b2 := (((Blk.new' w w.heap.size 23 (x.cells).toArray (x.cells) (by simp) rfl).alloc (.cells (ioC true 34 v).toArray 26)).alloc (.cells (dnC zC 0 noS false).toArray 39))
  have b3 := ((Blk.new' (w.alloc (.cells (x.cells).toArray 23)) (w.heap.size + 1) 26 (ioC true 34 v).toArray (ioC true 34 v) (by simp) rfl).alloc (.cells (dnC zC 0 noS false).toArray 39))
  have b4 := (Blk.new' ((w.alloc (.cells (x.cells).toArray 23)).alloc (.cells (ioC true 34 v).toArray 26)) (w.heap.size + 1 + 1) 39 (dnC zC 0 noS false).toArray (dnC zC 0 noS false) (by simp) rfl)
  have lw := (((later1 w (.cells (x.cells).toArray 23)).alloc (by simp; try omega) (.cells (ioC true 34 v).toArray 26)).alloc (by simp; try omega) (.cells (dnC zC 0 noS false).toArray 39))
  obtain ⟨u0, hu⟩ : ∃ u, (((w.alloc (.cells (x.cells).toArray 23)).alloc (.cells (ioC true 34 v).toArray 26)).alloc (.cells (dnC zC 0 noS false).toArray 39)) = u := ⟨_, rfl⟩
  rw [hu] at b2 b3 b4 lw
  have a1 : IntKind.u32.wrap (x.s.size : Int) = (x.s.size : Int) := by rw [IntKind.wrap_u32]; omega
  have a2 : (x.s.size : Int) % 4294967296 = (x.s.size : Int) := by omega
  go_enter Try.func15, Try.ntmps15
  go_upto_region 1 with fail
  have hu2 : (((w.alloc (.cells (x.cells).toArray 23)).alloc (.cells #[.bool true, .int .i64 34, .int .u32 v] 26)).alloc (.cells #[.string ⟨#[]⟩, .int .i64 0, .int .u32 0, .string ⟨#[]⟩, .bool false] 39)) = u0 := hu
  try rw [hu2]
  clear hu hu2
  have e0 := b3.cell (j := 0) rfl
  have e1 := b3.cell (j := 1) rfl
  have e2 := b3.cell (j := 2) rfl
  have c0 := b2.cell (cn_s x)
  have c1 := b2.cell (cn_n x)
  go_wp2_with (first
    | ((with_reducible refine wpList_load_blk (o := ⟨some 51, .load 23 (.tmp 2), _, _, _, none⟩) rfl _ _ rfl w.heap.size 23 x.cells _ ?_ ?_ Try.underlying23 rfl (cn_sz _) ?_); rfl; exact b2)
    | ((with_reducible refine wpList_bld (o := ⟨some 56, .build 39 #[(0, .tmp 51), (1, .tmp 55), (3, .const (.bool true))], _, _, _, none⟩) rfl _ #[(0, .tmp 51), (1, .tmp 55), (3, .const (.bool true))] #[(0, .agg x.cells.toArray), (1, .int .u32 (x.s.size : Int)), (3, .bool true)] (dnC x (x.s.size : Int) noS true).toArray rfl ?_ (run_dnV x (x.s.size : Int) _) ?_); rfl)
    | ((with_reducible refine wpList_store_abs (o := ⟨none, .store 39 (.tmp 4) (.tmp 56), _, _, _, none⟩) rfl _ _ _ rfl (w.heap.size + 1 + 1) 39 (dnC zC 0 noS false) (dnC x (x.s.size : Int) noS true) ?_ ?_ ?_ ?_ ?_ ?_ ?_); rfl; rfl; exact b4; exact (dn_sz _ _ _ _); rfl; exact dn_one _ _ _ _; intro w9 b9 o9))
  exact bodyPost_ret (dn_ret Try.results15 _ _ (w.heap.size + 1 + 1) x (x.s.size : Int) noS true rfl b9) rfl ⟨rfl, Below.only lw o9 (by omega)⟩
set_option maxRecDepth 100000 in
set_option maxHeartbeats 4000000 in
theorem rport_n32 (x : Cn) (v : Int) (w : World) (_ : x.s.size ≤ 64) : Calls Try.prog 15 #[.agg x.cells.toArray, .agg #[.bool true, .int .i64 32, .int .u32 v]] w fun e w' => e = .returned (.agg (dnC x 0 noS false).toArray) ∧ Later w w' := by
  have b2 := (((Blk.new' w w.heap.size 23 (x.cells).toArray (x.cells) (by simp) rfl).alloc (.cells (ioC true 32 v).toArray 26)).alloc (.cells (dnC zC 0 noS false).toArray 39))
  have b3 := ((Blk.new' (w.alloc (.cells (x.cells).toArray 23)) (w.heap.size + 1) 26 (ioC true 32 v).toArray (ioC true 32 v) (by simp) rfl).alloc (.cells (dnC zC 0 noS false).toArray 39))
  have b4 := (Blk.new' ((w.alloc (.cells (x.cells).toArray 23)).alloc (.cells (ioC true 32 v).toArray 26)) (w.heap.size + 1 + 1) 39 (dnC zC 0 noS false).toArray (dnC zC 0 noS false) (by simp) rfl)
  have lw := (((later1 w (.cells (x.cells).toArray 23)).alloc (by simp; try omega) (.cells (ioC true 32 v).toArray 26)).alloc (by simp; try omega) (.cells (dnC zC 0 noS false).toArray 39))
  obtain ⟨u0, hu⟩ : ∃ u, (((w.alloc (.cells (x.cells).toArray 23)).alloc (.cells (ioC true 32 v).toArray 26)).alloc (.cells (dnC zC 0 noS false).toArray 39)) = u := ⟨_, rfl⟩
  rw [hu] at b2 b3 b4 lw
  go_enter Try.func15, Try.ntmps15
  go_upto_region 1 with fail
  have hu2 : (((w.alloc (.cells (x.cells).toArray 23)).alloc (.cells #[.bool true, .int .i64 32, .int .u32 v] 26)).alloc (.cells #[.string ⟨#[]⟩, .int .i64 0, .int .u32 0, .string ⟨#[]⟩, .bool false] 39)) = u0 := hu
  try rw [hu2]
  clear hu hu2
  have e0 := b3.cell (j := 0) rfl
  have e1 := b3.cell (j := 1) rfl
  have e2 := b3.cell (j := 2) rfl
  have c0 := b2.cell (cn_s x)
  have c1 := b2.cell (cn_n x)
  go_wp2_with (first
    | ((with_reducible refine wpList_load_blk (o := ⟨some 57, .load 23 (.tmp 2), _, _, _, none⟩) rfl _ _ rfl w.heap.size 23 x.cells _ ?_ ?_ Try.underlying23 rfl (cn_sz _) ?_); rfl; exact b2)
    | ((with_reducible refine wpList_bld (o := ⟨some 58, .build 39 #[(0, .tmp 57)], _, _, _, none⟩) rfl _ #[(0, .tmp 57)] #[(0, .agg x.cells.toArray)] (dnC x 0 noS false).toArray rfl ?_ (run_dn0 x _) ?_); rfl)
    | ((with_reducible refine wpList_store_abs (o := ⟨none, .store 39 (.tmp 4) (.tmp 58), _, _, _, none⟩) rfl _ _ _ rfl (w.heap.size + 1 + 1) 39 (dnC zC 0 noS false) (dnC x 0 noS false) ?_ ?_ ?_ ?_ ?_ ?_ ?_); rfl; rfl; exact b4; exact (dn_sz _ _ _ _); rfl; exact dn_one _ _ _ _; intro w9 b9 o9))
  exact bodyPost_ret (dn_ret Try.results15 _ _ (w.heap.size + 1 + 1) x 0 noS false rfl b9) rfl ⟨rfl, Below.only lw o9 (by omega)⟩
set_option maxRecDepth 100000 in
set_option maxHeartbeats 4000000 in
theorem rport_n33 (x : Cn) (v : Int) (w : World) (_ : x.s.size ≤ 64) : Calls Try.prog 15 #[.agg x.cells.toArray, .agg #[.bool false, .int .i64 33, .int .u32 v]] w fun e w' => e = .returned (.agg (dnC x 0 noS false).toArray) ∧ Later w w' := by
  have b2 := (((Blk.new' w w.heap.size 23 (x.cells).toArray (x.cells) (by simp) rfl).alloc (.cells (ioC false 33 v).toArray 26)).alloc (.cells (dnC zC 0 noS false).toArray 39))
  have b3 := ((Blk.new' (w.alloc (.cells (x.cells).toArray 23)) (w.heap.size + 1) 26 (ioC false 33 v).toArray (ioC false 33 v) (by simp) rfl).alloc (.cells (dnC zC 0 noS false).toArray 39))
  have b4 := (Blk.new' ((w.alloc (.cells (x.cells).toArray 23)).alloc (.cells (ioC false 33 v).toArray 26)) (w.heap.size + 1 + 1) 39 (dnC zC 0 noS false).toArray (dnC zC 0 noS false) (by simp) rfl)
  have lw := (((later1 w (.cells (x.cells).toArray 23)).alloc (by simp; try omega) (.cells (ioC false 33 v).toArray 26)).alloc (by simp; try omega) (.cells (dnC zC 0 noS false).toArray 39))
  obtain ⟨u0, hu⟩ : ∃ u, (((w.alloc (.cells (x.cells).toArray 23)).alloc (.cells (ioC false 33 v).toArray 26)).alloc (.cells (dnC zC 0 noS false).toArray 39)) = u := ⟨_, rfl⟩
  rw [hu] at b2 b3 b4 lw
  go_enter Try.func15, Try.ntmps15
  go_upto_region 1 with fail
  have hu2 : (((w.alloc (.cells (x.cells).toArray 23)).alloc (.cells #[.bool false, .int .i64 33, .int .u32 v] 26)).alloc (.cells #[.string ⟨#[]⟩, .int .i64 0, .int .u32 0, .string ⟨#[]⟩, .bool false] 39)) = u0 := hu
  try rw [hu2]
  clear hu hu2
  have e0 := b3.cell (j := 0) rfl
  have e1 := b3.cell (j := 1) rfl
  have e2 := b3.cell (j := 2) rfl
  have c0 := b2.cell (cn_s x)
  have c1 := b2.cell (cn_n x)
  go_wp2_with (first
    | ((with_reducible refine wpList_load_blk (o := ⟨some 57, .load 23 (.tmp 2), _, _, _, none⟩) rfl _ _ rfl w.heap.size 23 x.cells _ ?_ ?_ Try.underlying23 rfl (cn_sz _) ?_); rfl; exact b2)
    | ((with_reducible refine wpList_bld (o := ⟨some 58, .build 39 #[(0, .tmp 57)], _, _, _, none⟩) rfl _ #[(0, .tmp 57)] #[(0, .agg x.cells.toArray)] (dnC x 0 noS false).toArray rfl ?_ (run_dn0 x _) ?_); rfl)
    | ((with_reducible refine wpList_store_abs (o := ⟨none, .store 39 (.tmp 4) (.tmp 58), _, _, _, none⟩) rfl _ _ _ rfl (w.heap.size + 1 + 1) 39 (dnC zC 0 noS false) (dnC x 0 noS false) ?_ ?_ ?_ ?_ ?_ ?_ ?_); rfl; rfl; exact b4; exact (dn_sz _ _ _ _); rfl; exact dn_one _ _ _ _; intro w9 b9 o9))
  exact bodyPost_ret (dn_ret Try.results15 _ _ (w.heap.size + 1 + 1) x 0 noS false rfl b9) rfl ⟨rfl, Below.only lw o9 (by omega)⟩
set_option maxRecDepth 100000 in
set_option maxHeartbeats 4000000 in
theorem rport_n34 (x : Cn) (v : Int) (w : World) (_ : x.s.size ≤ 64) : Calls Try.prog 15 #[.agg x.cells.toArray, .agg #[.bool false, .int .i64 34, .int .u32 v]] w fun e w' => e = .returned (.agg (dnC x 0 noS false).toArray) ∧ Later w w' := by
  have b2 := (((Blk.new' w w.heap.size 23 (x.cells).toArray (x.cells) (by simp) rfl).alloc (.cells (ioC false 34 v).toArray 26)).alloc (.cells (dnC zC 0 noS false).toArray 39))
  have b3 := ((Blk.new' (w.alloc (.cells (x.cells).toArray 23)) (w.heap.size + 1) 26 (ioC false 34 v).toArray (ioC false 34 v) (by simp) rfl).alloc (.cells (dnC zC 0 noS false).toArray 39))
  have b4 := (Blk.new' ((w.alloc (.cells (x.cells).toArray 23)).alloc (.cells (ioC false 34 v).toArray 26)) (w.heap.size + 1 + 1) 39 (dnC zC 0 noS false).toArray (dnC zC 0 noS false) (by simp) rfl)
  have lw := (((later1 w (.cells (x.cells).toArray 23)).alloc (by simp; try omega) (.cells (ioC false 34 v).toArray 26)).alloc (by simp; try omega) (.cells (dnC zC 0 noS false).toArray 39))
  obtain ⟨u0, hu⟩ : ∃ u, (((w.alloc (.cells (x.cells).toArray 23)).alloc (.cells (ioC false 34 v).toArray 26)).alloc (.cells (dnC zC 0 noS false).toArray 39)) = u := ⟨_, rfl⟩
  rw [hu] at b2 b3 b4 lw
  go_enter Try.func15, Try.ntmps15
  go_upto_region 1 with fail
  have hu2 : (((w.alloc (.cells (x.cells).toArray 23)).alloc (.cells #[.bool false, .int .i64 34, .int .u32 v] 26)).alloc (.cells #[.string ⟨#[]⟩, .int .i64 0, .int .u32 0, .string ⟨#[]⟩, .bool false] 39)) = u0 := hu
  try rw [hu2]
  clear hu hu2
  have e0 := b3.cell (j := 0) rfl
  have e1 := b3.cell (j := 1) rfl
  have e2 := b3.cell (j := 2) rfl
  have c0 := b2.cell (cn_s x)
  have c1 := b2.cell (cn_n x)
  go_wp2_with (first
    | ((with_reducible refine wpList_load_blk (o := ⟨some 57, .load 23 (.tmp 2), _, _, _, none⟩) rfl _ _ rfl w.heap.size 23 x.cells _ ?_ ?_ Try.underlying23 rfl (cn_sz _) ?_); rfl; exact b2)
    | ((with_reducible refine wpList_bld (o := ⟨some 58, .build 39 #[(0, .tmp 57)], _, _, _, none⟩) rfl _ #[(0, .tmp 57)] #[(0, .agg x.cells.toArray)] (dnC x 0 noS false).toArray rfl ?_ (run_dn0 x _) ?_); rfl)
    | ((with_reducible refine wpList_store_abs (o := ⟨none, .store 39 (.tmp 4) (.tmp 58), _, _, _, none⟩) rfl _ _ _ rfl (w.heap.size + 1 + 1) 39 (dnC zC 0 noS false) (dnC x 0 noS false) ?_ ?_ ?_ ?_ ?_ ?_ ?_); rfl; rfl; exact b4; exact (dn_sz _ _ _ _); rfl; exact dn_one _ _ _ _; intro w9 b9 o9))
  exact bodyPost_ret (dn_ret Try.results15 _ _ (w.heap.size + 1 + 1) x 0 noS false rfl b9) rfl ⟨rfl, Below.only lw o9 (by omega)⟩
set_option maxRecDepth 100000 in
set_option maxHeartbeats 4000000 in
theorem rport_nt (x : Cn) (p : Int) (h0 : (p == (32 : Int)) = false) (h1 : (p == (33 : Int)) = false) (h2 : (p == (34 : Int)) = false) (v : Int) (w : World) (_ : x.s.size ≤ 64) : Calls Try.prog 15 #[.agg x.cells.toArray, .agg #[.bool true, .int .i64 p, .int .u32 v]] w fun e w' => e = .returned (.agg (dnC x 0 noS false).toArray) ∧ Later w w' := by
  have b2 := (((Blk.new' w w.heap.size 23 (x.cells).toArray (x.cells) (by simp) rfl).alloc (.cells (ioC true p v).toArray 26)).alloc (.cells (dnC zC 0 noS false).toArray 39))
  have b3 := ((Blk.new' (w.alloc (.cells (x.cells).toArray 23)) (w.heap.size + 1) 26 (ioC true p v).toArray (ioC true p v) (by simp) rfl).alloc (.cells (dnC zC 0 noS false).toArray 39))
  have b4 := (Blk.new' ((w.alloc (.cells (x.cells).toArray 23)).alloc (.cells (ioC true p v).toArray 26)) (w.heap.size + 1 + 1) 39 (dnC zC 0 noS false).toArray (dnC zC 0 noS false) (by simp) rfl)
  have lw := (((later1 w (.cells (x.cells).toArray 23)).alloc (by simp; try omega) (.cells (ioC true p v).toArray 26)).alloc (by simp; try omega) (.cells (dnC zC 0 noS false).toArray 39))
  obtain ⟨u0, hu⟩ : ∃ u, (((w.alloc (.cells (x.cells).toArray 23)).alloc (.cells (ioC true p v).toArray 26)).alloc (.cells (dnC zC 0 noS false).toArray 39)) = u := ⟨_, rfl⟩
  rw [hu] at b2 b3 b4 lw
  go_enter Try.func15, Try.ntmps15
  go_upto_region 1 with fail
  have hu2 : (((w.alloc (.cells (x.cells).toArray 23)).alloc (.cells #[.bool true, .int .i64 p, .int .u32 v] 26)).alloc (.cells #[.string ⟨#[]⟩, .int .i64 0, .int .u32 0, .string ⟨#[]⟩, .bool false] 39)) = u0 := hu
  try rw [hu2]
  clear hu hu2
  have e0 := b3.cell (j := 0) rfl
  have e1 := b3.cell (j := 1) rfl
  have e2 := b3.cell (j := 2) rfl
  have c0 := b2.cell (cn_s x)
  have c1 := b2.cell (cn_n x)
  go_wp2_with (first
    | ((with_reducible refine wpList_load_blk (o := ⟨some 57, .load 23 (.tmp 2), _, _, _, none⟩) rfl _ _ rfl w.heap.size 23 x.cells _ ?_ ?_ Try.underlying23 rfl (cn_sz _) ?_); rfl; exact b2)
    | ((with_reducible refine wpList_bld (o := ⟨some 58, .build 39 #[(0, .tmp 57)], _, _, _, none⟩) rfl _ #[(0, .tmp 57)] #[(0, .agg x.cells.toArray)] (dnC x 0 noS false).toArray rfl ?_ (run_dn0 x _) ?_); rfl)
    | ((with_reducible refine wpList_store_abs (o := ⟨none, .store 39 (.tmp 4) (.tmp 58), _, _, _, none⟩) rfl _ _ _ rfl (w.heap.size + 1 + 1) 39 (dnC zC 0 noS false) (dnC x 0 noS false) ?_ ?_ ?_ ?_ ?_ ?_ ?_); rfl; rfl; exact b4; exact (dn_sz _ _ _ _); rfl; exact dn_one _ _ _ _; intro w9 b9 o9))
  exact bodyPost_ret (dn_ret Try.results15 _ _ (w.heap.size + 1 + 1) x 0 noS false rfl b9) rfl ⟨rfl, Below.only lw o9 (by omega)⟩
set_option maxRecDepth 100000 in
set_option maxHeartbeats 4000000 in
theorem rport_nf (x : Cn) (p : Int) (h0 : (p == (32 : Int)) = false) (h1 : (p == (33 : Int)) = false) (h2 : (p == (34 : Int)) = false) (v : Int) (w : World) (_ : x.s.size ≤ 64) : Calls Try.prog 15 #[.agg x.cells.toArray, .agg #[.bool false, .int .i64 p, .int .u32 v]] w fun e w' => e = .returned (.agg (dnC x 0 noS false).toArray) ∧ Later w w' := by
  have b2 := (((Blk.new' w w.heap.size 23 (x.cells).toArray (x.cells) (by simp) rfl).alloc (.cells (ioC false p v).toArray 26)).alloc (.cells (dnC zC 0 noS false).toArray 39))
  have b3 := ((Blk.new' (w.alloc (.cells (x.cells).toArray 23)) (w.heap.size + 1) 26 (ioC false p v).toArray (ioC false p v) (by simp) rfl).alloc (.cells (dnC zC 0 noS false).toArray 39))
  have b4 := (Blk.new' ((w.alloc (.cells (x.cells).toArray 23)).alloc (.cells (ioC false p v).toArray 26)) (w.heap.size + 1 + 1) 39 (dnC zC 0 noS false).toArray (dnC zC 0 noS false) (by simp) rfl)
  have lw := (((later1 w (.cells (x.cells).toArray 23)).alloc (by simp; try omega) (.cells (ioC false p v).toArray 26)).alloc (by simp; try omega) (.cells (dnC zC 0 noS false).toArray 39))
  obtain ⟨u0, hu⟩ : ∃ u, (((w.alloc (.cells (x.cells).toArray 23)).alloc (.cells (ioC false p v).toArray 26)).alloc (.cells (dnC zC 0 noS false).toArray 39)) = u := ⟨_, rfl⟩
  rw [hu] at b2 b3 b4 lw
  go_enter Try.func15, Try.ntmps15
  go_upto_region 1 with fail
  have hu2 : (((w.alloc (.cells (x.cells).toArray 23)).alloc (.cells #[.bool false, .int .i64 p, .int .u32 v] 26)).alloc (.cells #[.string ⟨#[]⟩, .int .i64 0, .int .u32 0, .string ⟨#[]⟩, .bool false] 39)) = u0 := hu
  try rw [hu2]
  clear hu hu2
  have e0 := b3.cell (j := 0) rfl
  have e1 := b3.cell (j := 1) rfl
  have e2 := b3.cell (j := 2) rfl
  have c0 := b2.cell (cn_s x)
  have c1 := b2.cell (cn_n x)
  go_wp2_with (first
    | ((with_reducible refine wpList_load_blk (o := ⟨some 57, .load 23 (.tmp 2), _, _, _, none⟩) rfl _ _ rfl w.heap.size 23 x.cells _ ?_ ?_ Try.underlying23 rfl (cn_sz _) ?_); rfl; exact b2)
    | ((with_reducible refine wpList_bld (o := ⟨some 58, .build 39 #[(0, .tmp 57)], _, _, _, none⟩) rfl _ #[(0, .tmp 57)] #[(0, .agg x.cells.toArray)] (dnC x 0 noS false).toArray rfl ?_ (run_dn0 x _) ?_); rfl)
    | ((with_reducible refine wpList_store_abs (o := ⟨none, .store 39 (.tmp 4) (.tmp 58), _, _, _, none⟩) rfl _ _ _ rfl (w.heap.size + 1 + 1) 39 (dnC zC 0 noS false) (dnC x 0 noS false) ?_ ?_ ?_ ?_ ?_ ?_ ?_); rfl; rfl; exact b4; exact (dn_sz _ _ _ _); rfl; exact dn_one _ _ _ _; intro w9 b9 o9))
  exact bodyPost_ret (dn_ret Try.results15 _ _ (w.heap.size + 1 + 1) x 0 noS false rfl b9) rfl ⟨rfl, Below.only lw o9 (by omega)⟩
end Go.Proofs.Ytkhgaikfomcjeaa
