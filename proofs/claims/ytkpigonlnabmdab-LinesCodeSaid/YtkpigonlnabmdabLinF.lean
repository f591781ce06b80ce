/-
  A CONTROL: Port.
-/
import Derived.Test.YtkpigonlnabmdabLinE
import Derived.Deep.RegionHeld
namespace Go.Proofs.Ytkpigonlnabmdab
open Go.RowKit Go.ChangeShapes Go.WideShapes Go.ChangeAt

def ioC (inn : Bool) (p v : Int) : List Value := [.bool inn, .int .i64 p, .int .u32 v]
theorem io_sz (inn : Bool) (p v : Int) : (Try.prog.info? 28).map (·.size) = some (ioC inn p v).length := by
  show _ = some 3
  kernel_rfl
set_option maxRecDepth 100000 in
theorem rd_at (a : Value) (op : Int) (V : Value) (q : Bool) (hV : rdV a op = V) (hq : rdB op = q) : ∀ (b c : Nat) (w' : World), w'.heap[b]? = some (.map (rdE a) c) → (Instr.lookup 63 (.map (some b)) (.int .i64 op) true).run Try.prog w' = .ok (.tuple #[V, .bool q]) w' := by
  intro b c w' hb
  rw [rd_look a op hb, hV, hq]
theorem wt_at (a : Value) (op : Int) (V : Value) (q : Bool) (hV : wtV a op = V) (hq : wtB op = q) : ∀ (b c : Nat) (w' : World), w'.heap[b]? = some (.map (wtE a) c) → (Instr.lookup 67 (.map (some b)) (.int .i64 op) true).run Try.prog w' = .ok (.tuple #[V, .bool q]) w' := by
  intro b c w' hb
  rw [wt_look a op hb, hV, hq]
theorem wp_store_blk {P : Program} {o : Oper} {a : Act} {w : World} {K : Act → World → Prop} {Q : Exit → Act → World → Prop} (ty : TypeId) (x y : Operand) (ho : o.op = .store ty x y)
    (g : Nat) (t : TypeId) (old cs : List Value) (hx : a.eval x = .pointer (some ⟨g, 0, none⟩)) (hy : a.eval y = .agg cs.toArray) (hg : Blk w g t old)
    (hi : (P.info? ty).map (·.size) = some cs.length) (hold : old.length = cs.length) (h1 : ∀ v ∈ cs, v.oneCell' = true)
    (h : ∀ w', Blk w' g t cs → Only g w w' → K (a.put o.dst undef) w') : o.wp P a w K Q :=
  wp_store_row ty x y ho g cs.toArray hx hy t old.toArray hg (by rw [List.size_toArray]; exact hi) (by simpa using hold) (all_oneCell_toArray h1) (h _ (hg.row cs) (Only.row _ _ _))
set_option maxRecDepth 100000 in
set_option maxHeartbeats 2000000 in
theorem port_in0 (x : Ctl) (k : Nat) (v : Int) (w : World) (hx : x.Ok) (_ : x.wf) (hk : (k : Int) < x.n) (_ : Tm.isE v) :
    Calls Try.prog 12 #[.agg x.cells.toArray, .int .i64 (k : Int), .agg #[.bool true, .int .i64 0, .int .u32 v]] w fun e w' => e = .returned (.tuple #[.agg x.cells.toArray, .int .u32 (x.m k), .int .i64 0]) ∧ Later w w' := by
  have hn4 := hx.n4
  have hk0 : (0 : Int) ≤ k := by omega
  have KH := Lib.hid fun w' => has_any x k w' hn4
  rw [decide_eq_true ⟨hk0, hk⟩] at KH
  have KM0 := fun (B : Nat) (w' : World) (h : Blk w' B 60 (Acs x k)) => mask_any h hx hk
  have b3 := ((Blk.new w 26 x.cells.toArray x.cells rfl).alloc (.cells (ioC true 0 v).toArray 28)).alloc (.cells zK.cells.toArray 26)
  have b5 := (Blk.new' (w.alloc (.cells x.cells.toArray 26)) (w.heap.size + 1) 28 (ioC true 0 v).toArray (ioC true 0 v) (by simp) rfl).alloc (.cells zK.cells.toArray 26)
  have b6 := Blk.new' ((w.alloc (.cells x.cells.toArray 26)).alloc (.cells (ioC true 0 v).toArray 28)) (w.heap.size + 1 + 1) 26 zK.cells.toArray zK.cells (by simp) rfl
  have lw := ((later1 w (.cells x.cells.toArray 26)).alloc (by simp) (.cells (ioC true 0 v).toArray 28)).alloc (by simp; omega) (.cells zK.cells.toArray 26)
  clear hx
  go_enter Try.func12, Try.ntmps12
  go_upto_region 1 with fail
  obtain ⟨u0, hu⟩ : ∃ u0, ((w.alloc (.cells x.cells.toArray 26)).alloc (.cells (ioC true 0 v).toArray 28)).alloc (.cells zK.cells.toArray 26) = u0 := ⟨_, rfl⟩
  rw [hu] at b3 b5 b6 lw
  have hu2 : ((w.alloc (.cells x.cells.toArray 26)).alloc (.cells #[.bool true, .int .i64 0, .int .u32 v] 28)).alloc (.cells #[.int .i64 0, .int .u32 0, .int .u32 0, .int .u32 0, .int .u32 0, .int .u32 0, .int .u32 0, .int .u32 0, .int .u32 0, .int .i64 0, .int .i64 0, .int .i64 0, .int .i64 0, .int .i64 0] 26) = u0 := hu
  rw [hu2]
  clear hu hu2
  go_upto_region 4 with (first
    | ((with_reducible refine wpList_load_blk (o := ⟨some 14, .load 26 (.tmp 3), _, _, _, none⟩) rfl _ _ rfl w.heap.size 26 x.cells _ ?_ ?_ Try.underlying26 rfl (ctl_sz _) ?_); rfl; exact b3)
    | ((with_reducible refine wpList_load_blk (o := ⟨some 19, .load 26 (.tmp 3), _, _, _, none⟩) rfl _ _ rfl w.heap.size 26 x.cells _ ?_ ?_ Try.underlying26 rfl (ctl_sz _) ?_); rfl; exact b3)
    | (go_at_call 26; (with_reducible refine (KH.out _).mono ?_); rintro e w1 ⟨rfl, l1⟩; replace b3 := b3.keep l1; replace b5 := b5.keep l1; replace b6 := b6.keep l1; replace lw := Later.trans_ lw l1; have hlt : w.heap.size + 1 + 1 < w1.heap.size := b6.lt)
    | ((with_reducible refine wpList_bld (o := ⟨some 21, .build 60 #[(0, .tmp 19), (1, .tmp 20)], _, _, _, none⟩) rfl _ #[(0, .tmp 19), (1, .tmp 20)] #[(0, .agg x.cells.toArray), (1, .int .i64 (k : Int))] (Acs x k).toArray rfl ?_ (run_as x k _) ?_); rfl)
    | ((with_reducible refine wpList_store_abs (o := ⟨none, .store 60 (.tmp 9) (.tmp 21), _, _, _, none⟩) rfl _ _ _ rfl w1.heap.size 60 (Acs zK 0) (Acs x k) ?_ ?_ ?_ ?_ ?_ ?_ ?_); rfl; rfl; exact (Blk.new _ _ _ _ rfl); exact as_sz _ _; rfl; exact as_one _ _; intro v2 b9 o2; replace b3 := (b3.alloc (.cells (Acs zK 0).toArray 60)).only o2 (Nat.ne_of_lt b3.lt); replace b5 := (b5.alloc (.cells (Acs zK 0).toArray 60)).only o2 (Nat.ne_of_lt b5.lt); replace b6 := (b6.alloc (.cells (Acs zK 0).toArray 60)).only o2 (Nat.ne_of_lt b6.lt); replace lw := Below.only (lw.alloc lw.size (.cells (Acs zK 0).toArray 60)) o2 lw.size))
  have e0 := b5.cell (j := 0) (v := .bool true) rfl
  go_upto_region 5 with fail
  clear e0
  have KR := Lib.hid fun w' => rd_any w1.heap.size w'
  have HL := Lib.hid (rd_at (pA w1.heap.size) 0 (.func (.func 40) #[pA w1.heap.size] #[]) true rfl rfl)
  replace b3 := b3.drew
  replace b5 := b5.drew
  replace b6 := b6.drew
  replace b9 := b9.drew
  replace lw := lw.drew
  refine wp_region_held_drew (S := fun w' => w'.cell? ⟨w.heap.size + 1, 1, none⟩ = some (.int .i64 0)) (by kernel_rfl) (b5.cell (j := 1) rfl) (fun hHeld => ?_)
  refine wpAnyH_take (i := 1) (oi := ⟨some 26, .fieldAddr 28 (.tmp 5) 1, _, _, _, none⟩) (v := .pointer (some ⟨w.heap.size + 1, 1, none⟩)) rfl (by kernel_rfl) (by kernel_rfl) (by kernel_rfl) (fun _ _ _ h => h) (Or.inl ⟨by rfl, fun w _ => by go_simp⟩) hHeld ?_
  simp only [Act.put, List.setIfInBounds_toArray, List.set_cons_zero, List.set_cons_succ]
  refine wpAnyH_take (i := 2) (oi := ⟨some 27, .load 3 (.tmp 26), _, _, _, none⟩) (v := .int .i64 0) rfl (by kernel_rfl) (by kernel_rfl) (by kernel_rfl) (fun _ _ _ h => h) (Or.inl ⟨by rfl, fun w hSw => by have e1 := hSw; clear hSw; go_simp⟩) hHeld ?_
  simp only [Act.put, List.setIfInBounds_toArray, List.set_cons_zero, List.set_cons_succ]
  refine wpAnyH_ready (rs := [0]) (by kernel_rfl) (by simp) (AllReadyH.cons (o := ⟨some 25, .call { callee := .value (.func 28), args := #[.tmp 9], argTypes := #[60] }, _, _, _, none⟩) rfl (fun K' hK => ?_) (AllReadyH.nil))
  go_simp
  refine (KR.out _).mono ?_
  rintro e v3 ⟨rfl, hmp, l3⟩
  replace b3 := b3.keep l3
  replace b5 := b5.keep l3
  replace b6 := b6.keep l3
  replace b9 := b9.keep l3
  replace lw := Later.trans_ lw l3
  have hlk := HL.out v2.heap.size _ _ hmp
  clear hmp l3
  refine hK.out _ _ (b5.cell (j := 1) rfl) (fun hHeld => ?_)
  clear hK K'
  try simp only [Act.put, List.setIfInBounds_toArray, List.set_cons_zero, List.set_cons_succ]
  refine wpAnyH_ready (rs := [3]) (by kernel_rfl) (by simp) (AllReadyH.cons (o := ⟨some 28, .lookup 63 (.tmp 25) (.tmp 27) true, _, _, _, none⟩) rfl (fun K' hK => ?_) (AllReadyH.nil))
  go_simp
  clear hlk
  refine hK.out _ _ (b5.cell (j := 1) rfl) (fun hHeld => ?_)
  clear hK K'
  try simp only [Act.put, List.setIfInBounds_toArray, List.set_cons_zero, List.set_cons_succ]
  refine wpAnyH_take (i := 4) (oi := ⟨some 24, .move (.tmp 28), _, _, _, none⟩) (v := (.tuple #[.func (.func 40) #[pA w1.heap.size] #[], .bool true])) rfl (by kernel_rfl) (by kernel_rfl) (by kernel_rfl) (fun _ _ _ h => h) (Or.inl ⟨by rfl, fun _ _ => rfl⟩) hHeld ?_
  simp only [Act.put, List.setIfInBounds_toArray, List.set_cons_zero, List.set_cons_succ]
  refine wpAnyH_take (i := 5) (oi := ⟨some 29, .extract (.tmp 24) 0, _, _, _, none⟩) (v := .func (.func 40) #[pA w1.heap.size] #[]) rfl (by kernel_rfl) (by kernel_rfl) (by kernel_rfl) (fun _ _ _ h => h) (Or.inl ⟨by rfl, fun w _ => by go_simp⟩) hHeld ?_
  simp only [Act.put, List.setIfInBounds_toArray, List.set_cons_zero, List.set_cons_succ]
  refine wpAnyH_take (i := 6) (oi := ⟨some 30, .extract (.tmp 24) 1, _, _, _, none⟩) (v := .bool true) rfl (by kernel_rfl) (by kernel_rfl) (by kernel_rfl) (fun _ _ _ h => h) (Or.inl ⟨by rfl, fun w _ => by go_simp⟩) hHeld ?_
  simp only [Act.put, List.setIfInBounds_toArray, List.set_cons_zero, List.set_cons_succ]
  refine wpAnyH_take (i := 7) (oi := ⟨some 10, .assign (.tmp 29), _, _, _, none⟩) (v := .func (.func 40) #[pA w1.heap.size] #[]) rfl (by kernel_rfl) (by kernel_rfl) (by kernel_rfl) (fun _ _ _ h => h) (Or.inl ⟨by rfl, fun _ _ => rfl⟩) hHeld ?_
  simp only [Act.put, List.setIfInBounds_toArray, List.set_cons_zero, List.set_cons_succ]
  refine wpAnyH_take (i := 8) (oi := ⟨some 11, .assign (.tmp 30), _, _, _, none⟩) (v := .bool true) rfl (by kernel_rfl) (by kernel_rfl) (by kernel_rfl) (fun _ _ _ h => h) (Or.inl ⟨by rfl, fun _ _ => rfl⟩) hHeld ?_
  simp only [Act.put, List.setIfInBounds_toArray, List.set_cons_zero, List.set_cons_succ]
  refine wpAnyH_done (by kernel_rfl) ?_ _
  clear hHeld
  go_upto_region 7 with fail
  replace b3 := b3.drew
  replace b6 := b6.drew
  replace b9 := b9.drew
  replace lw := lw.drew
  have KM := Lib.hid fun w' (h : Blk w' w1.heap.size 60 (Acs x k)) => KM0 _ w' h
  refine wp_region_held_drew (S := fun w' => w'.rangeAt w.heap.size 0 x.cells) (by kernel_rfl) (show World.rangeAt _ w.heap.size 0 x.cells from b3.range 0 14) (fun hHeld => ?_)
  refine wpAnyH_take (i := 0) (oi := ⟨some 32, .load 26 (.tmp 3), _, _, _, none⟩) (v := .agg x.cells.toArray) rfl (by kernel_rfl) (by kernel_rfl) (by kernel_rfl) (fun _ _ _ h => h) (yieldsIf_load_mid (by rfl) _ _ rfl _ _ rfl x.cells _ (fun w h => h) Try.underlying26 rfl (ctl_sz _)) hHeld ?_
  simp only [Act.put, List.setIfInBounds_toArray, List.set_cons_zero, List.set_cons_succ]
  refine wpAnyH_take (i := 1) (oi := ⟨some 33, .move (.tmp 10), _, _, _, none⟩) (v := .func (.func 40) #[pA w1.heap.size] #[]) rfl (by kernel_rfl) (by kernel_rfl) (by kernel_rfl) (fun _ _ _ h => h) (Or.inl ⟨by rfl, fun _ _ => rfl⟩) hHeld ?_
  simp only [Act.put, List.setIfInBounds_toArray, List.set_cons_zero, List.set_cons_succ]
  refine wpAnyH_ready (rs := [2]) (by kernel_rfl) (by simp) (AllReadyH.cons (o := ⟨some 34, .call { callee := .value (.tmp 33), args := #[], argTypes := #[] }, _, _, _, none⟩) rfl (fun K' hK => ?_) (AllReadyH.nil))
  go_simp
  (with_reducible refine (KM.out _ b9).mono ?_)
  rintro e v4 ⟨rfl, l4⟩
  replace b3 := b3.keep l4
  replace b6 := b6.keep l4
  replace lw := Later.trans_ lw l4
  refine hK.out _ _ (show World.rangeAt _ w.heap.size 0 x.cells from b3.range 0 14) (fun hHeld => ?_)
  clear hK K'
  try simp only [Act.put, List.setIfInBounds_toArray, List.set_cons_zero, List.set_cons_succ]
  refine wpAnyH_ready (rs := [3]) (by kernel_rfl) (by simp) (AllReadyH.cons (o := ⟨none, .store 26 (.tmp 6) (.tmp 32), _, _, _, none⟩) rfl (fun K' hK => ?_) (AllReadyH.nil))
  refine wp_store_blk 26 _ _ rfl (w.heap.size + 1 + 1) 26 zK.cells x.cells rfl rfl b6 (ctl_sz _) rfl (ctl_one _) ?_
  intro w9 b8 o9
  replace b3 := b3.only o9 (by omega)
  replace lw := Below.only lw o9 (by omega)
  refine hK.out _ _ (show World.rangeAt _ w.heap.size 0 x.cells from b3.range 0 14) (fun hHeld => ?_)
  clear hK K'
  try simp only [Act.put]
  refine wpAnyH_take (i := 4) (oi := ⟨some 7, .assign (.tmp 34), _, _, _, none⟩) (v := .int .u32 (x.m k)) rfl (by kernel_rfl) (by kernel_rfl) (by kernel_rfl) (fun _ _ _ h => h) (Or.inl ⟨by rfl, fun _ _ => rfl⟩) hHeld ?_
  simp only [Act.put, List.setIfInBounds_toArray, List.set_cons_zero, List.set_cons_succ]
  refine wpAnyH_take (i := 5) (oi := ⟨some 8, .assign (.const (.int .i64 0)), _, _, _, none⟩) (v := .int .i64 0) rfl (by kernel_rfl) (by kernel_rfl) (by kernel_rfl) (fun _ _ _ h => h) (Or.inl ⟨by rfl, fun _ _ => rfl⟩) hHeld ?_
  simp only [Act.put, List.setIfInBounds_toArray, List.set_cons_zero, List.set_cons_succ]
  refine wpAnyH_done (by kernel_rfl) ?_ _
  clear hHeld
  go_wp2
  exact bodyPost_ret (ctl_ret3 Try.results12 _ _ (w.heap.size + 1 + 1) x (.int .u32 (x.m k)) (.int .i64 0) rfl rfl rfl b8) rfl ⟨rfl, lw⟩
set_option maxRecDepth 100000 in
set_option maxHeartbeats 2000000 in
theorem port_in1 (x : Ctl) (k : Nat) (v : Int) (w : World) (hx : x.Ok) (hw : x.wf) (hk : (k : Int) < x.n) (_ : Tm.isE v) :
    Calls Try.prog 12 #[.agg x.cells.toArray, .int .i64 (k : Int), .agg #[.bool true, .int .i64 1, .int .u32 v]] w fun e w' => e = .returned (.tuple #[.agg x.cells.toArray, .int .u32 (x.pend k), .int .i64 0]) ∧ Later w w' := by
  have hn4 := hx.n4
  have hk0 : (0 : Int) ≤ k := by omega
  have KH := Lib.hid fun w' => has_any x k w' hn4
  rw [decide_eq_true ⟨hk0, hk⟩] at KH
  have KM0 := fun (B : Nat) (w' : World) (h : Blk w' B 60 (Acs x k)) => apending_any h hx hw hk
  have b3 := ((Blk.new w 26 x.cells.toArray x.cells rfl).alloc (.cells (ioC true 1 v).toArray 28)).alloc (.cells zK.cells.toArray 26)
  have b5 := (Blk.new' (w.alloc (.cells x.cells.toArray 26)) (w.heap.size + 1) 28 (ioC true 1 v).toArray (ioC true 1 v) (by simp) rfl).alloc (.cells zK.cells.toArray 26)
  have b6 := Blk.new' ((w.alloc (.cells x.cells.toArray 26)).alloc (.cells (ioC true 1 v).toArray 28)) (w.heap.size + 1 + 1) 26 zK.cells.toArray zK.cells (by simp) rfl
  have lw := ((later1 w (.cells x.cells.toArray 26)).alloc (by simp) (.cells (ioC true 1 v).toArray 28)).alloc (by simp; omega) (.cells zK.cells.toArray 26)
  clear hx hw
  go_enter Try.func12, Try.ntmps12
  go_upto_region 1 with fail
  obtain ⟨u0, hu⟩ : ∃ u0, ((w.alloc (.cells x.cells.toArray 26)).alloc (.cells (ioC true 1 v).toArray 28)).alloc (.cells zK.cells.toArray 26) = u0 := ⟨_, rfl⟩
  rw [hu] at b3 b5 b6 lw
  have hu2 : ((w.alloc (.cells x.cells.toArray 26)).alloc (.cells #[.bool true, .int .i64 1, .int .u32 v] 28)).alloc (.cells #[.int .i64 0, .int .u32 0, .int .u32 0, .int .u32 0, .int .u32 0, .int .u32 0, .int .u32 0, .int .u32 0, .int .u32 0, .int .i64 0, .int .i64 0, .int .i64 0, .int .i64 0, .int .i64 0] 26) = u0 := hu
  rw [hu2]
  clear hu hu2
  go_upto_region 4 with (first
    | ((with_reducible refine wpList_load_blk (o := ⟨some 14, .load 26 (.tmp 3), _, _, _, none⟩) rfl _ _ rfl w.heap.size 26 x.cells _ ?_ ?_ Try.underlying26 rfl (ctl_sz _) ?_); rfl; exact b3)
    | ((with_reducible refine wpList_load_blk (o := ⟨some 19, .load 26 (.tmp 3), _, _, _, none⟩) rfl _ _ rfl w.heap.size 26 x.cells _ ?_ ?_ Try.underlying26 rfl (ctl_sz _) ?_); rfl; exact b3)
    | (go_at_call 26; (with_reducible refine (KH.out _).mono ?_); rintro e w1 ⟨rfl, l1⟩; replace b3 := b3.keep l1; replace b5 := b5.keep l1; replace b6 := b6.keep l1; replace lw := Later.trans_ lw l1; have hlt : w.heap.size + 1 + 1 < w1.heap.size := b6.lt)
    | ((with_reducible refine wpList_bld (o := ⟨some 21, .build 60 #[(0, .tmp 19), (1, .tmp 20)], _, _, _, none⟩) rfl _ #[(0, .tmp 19), (1, .tmp 20)] #[(0, .agg x.cells.toArray), (1, .int .i64 (k : Int))] (Acs x k).toArray rfl ?_ (run_as x k _) ?_); rfl)
    | ((with_reducible refine wpList_store_abs (o := ⟨none, .store 60 (.tmp 9) (.tmp 21), _, _, _, none⟩) rfl _ _ _ rfl w1.heap.size 60 (Acs zK 0) (Acs x k) ?_ ?_ ?_ ?_ ?_ ?_ ?_); rfl; rfl; exact (Blk.new _ _ _ _ rfl); exact as_sz _ _; rfl; exact as_one _ _; intro v2 b9 o2; replace b3 := (b3.alloc (.cells (Acs zK 0).toArray 60)).only o2 (Nat.ne_of_lt b3.lt); replace b5 := (b5.alloc (.cells (Acs zK 0).toArray 60)).only o2 (Nat.ne_of_lt b5.lt); replace b6 := (b6.alloc (.cells (Acs zK 0).toArray 60)).only o2 (Nat.ne_of_lt b6.lt); replace lw := Below.only (lw.alloc lw.size (.cells (Acs zK 0).toArray 60)) o2 lw.size))
  have e0 := b5.cell (j := 0) (v := .bool true) rfl
  go_upto_region 5 with fail
  clear e0
  have KR := Lib.hid fun w' => rd_any w1.heap.size w'
  have HL := Lib.hid (rd_at (pA w1.heap.size) 1 (.func (.func 41) #[pA w1.heap.size] #[]) true rfl rfl)
  replace b3 := b3.drew
  replace b5 := b5.drew
  replace b6 := b6.drew
  replace b9 := b9.drew
  replace lw := lw.drew
  refine wp_region_held_drew (S := fun w' => w'.cell? ⟨w.heap.size + 1, 1, none⟩ = some (.int .i64 1)) (by kernel_rfl) (b5.cell (j := 1) rfl) (fun hHeld => ?_)
  refine wpAnyH_take (i := 1) (oi := ⟨some 26, .fieldAddr 28 (.tmp 5) 1, _, _, _, none⟩) (v := .pointer (some ⟨w.heap.size + 1, 1, none⟩)) rfl (by kernel_rfl) (by kernel_rfl) (by kernel_rfl) (fun _ _ _ h => h) (Or.inl ⟨by rfl, fun w _ => by go_simp⟩) hHeld ?_
  simp only [Act.put, List.setIfInBounds_toArray, List.set_cons_zero, List.set_cons_succ]
  refine wpAnyH_take (i := 2) (oi := ⟨some 27, .load 3 (.tmp 26), _, _, _, none⟩) (v := .int .i64 1) rfl (by kernel_rfl) (by kernel_rfl) (by kernel_rfl) (fun _ _ _ h => h) (Or.inl ⟨by rfl, fun w hSw => by have e1 := hSw; clear hSw; go_simp⟩) hHeld ?_
  simp only [Act.put, List.setIfInBounds_toArray, List.set_cons_zero, List.set_cons_succ]
  refine wpAnyH_ready (rs := [0]) (by kernel_rfl) (by simp) (AllReadyH.cons (o := ⟨some 25, .call { callee := .value (.func 28), args := #[.tmp 9], argTypes := #[60] }, _, _, _, none⟩) rfl (fun K' hK => ?_) (AllReadyH.nil))
  go_simp
  refine (KR.out _).mono ?_
  rintro e v3 ⟨rfl, hmp, l3⟩
  replace b3 := b3.keep l3
  replace b5 := b5.keep l3
  replace b6 := b6.keep l3
  replace b9 := b9.keep l3
  replace lw := Later.trans_ lw l3
  have hlk := HL.out v2.heap.size _ _ hmp
  clear hmp l3
  refine hK.out _ _ (b5.cell (j := 1) rfl) (fun hHeld => ?_)
  clear hK K'
  try simp only [Act.put, List.setIfInBounds_toArray, List.set_cons_zero, List.set_cons_succ]
  refine wpAnyH_ready (rs := [3]) (by kernel_rfl) (by simp) (AllReadyH.cons (o := ⟨some 28, .lookup 63 (.tmp 25) (.tmp 27) true, _, _, _, none⟩) rfl (fun K' hK => ?_) (AllReadyH.nil))
  go_simp
  clear hlk
  refine hK.out _ _ (b5.cell (j := 1) rfl) (fun hHeld => ?_)
  clear hK K'
  try simp only [Act.put, List.setIfInBounds_toArray, List.set_cons_zero, List.set_cons_succ]
  refine wpAnyH_take (i := 4) (oi := ⟨some 24, .move (.tmp 28), _, _, _, none⟩) (v := (.tuple #[.func (.func 41) #[pA w1.heap.size] #[], .bool true])) rfl (by kernel_rfl) (by kernel_rfl) (by kernel_rfl) (fun _ _ _ h => h) (Or.inl ⟨by rfl, fun _ _ => rfl⟩) hHeld ?_
  simp only [Act.put, List.setIfInBounds_toArray, List.set_cons_zero, List.set_cons_succ]
  refine wpAnyH_take (i := 5) (oi := ⟨some 29, .extract (.tmp 24) 0, _, _, _, none⟩) (v := .func (.func 41) #[pA w1.heap.size] #[]) rfl (by kernel_rfl) (by kernel_rfl) (by kernel_rfl) (fun _ _ _ h => h) (Or.inl ⟨by rfl, fun w _ => by go_simp⟩) hHeld ?_
  simp only [Act.put, List.setIfInBounds_toArray, List.set_cons_zero, List.set_cons_succ]
  refine wpAnyH_take (i := 6) (oi := ⟨some 30, .extract (.tmp 24) 1, _, _, _, none⟩) (v := .bool true) rfl (by kernel_rfl) (by kernel_rfl) (by kernel_rfl) (fun _ _ _ h => h) (Or.inl ⟨by rfl, fun w _ => by go_simp⟩) hHeld ?_
  simp only [Act.put, List.setIfInBounds_toArray, List.set_cons_zero, List.set_cons_succ]
  refine wpAnyH_take (i := 7) (oi := ⟨some 10, .assign (.tmp 29), _, _, _, none⟩) (v := .func (.func 41) #[pA w1.heap.size] #[]) rfl (by kernel_rfl) (by kernel_rfl) (by kernel_rfl) (fun _ _ _ h => h) (Or.inl ⟨by rfl, fun _ _ => rfl⟩) hHeld ?_
  simp only [Act.put, List.setIfInBounds_toArray, List.set_cons_zero, List.set_cons_succ]
  refine wpAnyH_take (i := 8) (oi := ⟨some 11, .assign (.tmp 30), _, _, _, none⟩) (v := .bool true) rfl (by kernel_rfl) (by kernel_rfl) (by kernel_rfl) (fun _ _ _ h => h) (Or.inl ⟨by rfl, fun _ _ => rfl⟩) hHeld ?_
  simp only [Act.put, List.setIfInBounds_toArray, List.set_cons_zero, List.set_cons_succ]
  refine wpAnyH_done (by kernel_rfl) ?_ _
  clear hHeld
  go_upto_region 7 with fail
  replace b3 := b3.drew
  replace b6 := b6.drew
  replace b9 := b9.drew
  replace lw := lw.drew
  have KM := Lib.hid fun w' (h : Blk w' w1.heap.size 60 (Acs x k)) => KM0 _ w' h
  refine wp_region_held_drew (S := fun w' => w'.rangeAt w.heap.size 0 x.cells) (by kernel_rfl) (show World.rangeAt _ w.heap.size 0 x.cells from b3.range 0 14) (fun hHeld => ?_)
  refine wpAnyH_take (i := 0) (oi := ⟨some 32, .load 26 (.tmp 3), _, _, _, none⟩) (v := .agg x.cells.toArray) rfl (by kernel_rfl) (by kernel_rfl) (by kernel_rfl) (fun _ _ _ h => h) (yieldsIf_load_mid (by rfl) _ _ rfl _ _ rfl x.cells _ (fun w h => h) Try.underlying26 rfl (ctl_sz _)) hHeld ?_
  simp only [Act.put, List.setIfInBounds_toArray, List.set_cons_zero, List.set_cons_succ]
  refine wpAnyH_take (i := 1) (oi := ⟨some 33, .move (.tmp 10), _, _, _, none⟩) (v := .func (.func 41) #[pA w1.heap.size] #[]) rfl (by kernel_rfl) (by kernel_rfl) (by kernel_rfl) (fun _ _ _ h => h) (Or.inl ⟨by rfl, fun _ _ => rfl⟩) hHeld ?_
  simp only [Act.put, List.setIfInBounds_toArray, List.set_cons_zero, List.set_cons_succ]
  refine wpAnyH_ready (rs := [2]) (by kernel_rfl) (by simp) (AllReadyH.cons (o := ⟨some 34, .call { callee := .value (.tmp 33), args := #[], argTypes := #[] }, _, _, _, none⟩) rfl (fun K' hK => ?_) (AllReadyH.nil))
  go_simp
  (with_reducible refine (KM.out _ b9).mono ?_)
  rintro e v4 ⟨rfl, l4⟩
  replace b3 := b3.keep l4
  replace b6 := b6.keep l4
  replace lw := Later.trans_ lw l4
  refine hK.out _ _ (show World.rangeAt _ w.heap.size 0 x.cells from b3.range 0 14) (fun hHeld => ?_)
  clear hK K'
  try simp only [Act.put, List.setIfInBounds_toArray, List.set_cons_zero, List.set_cons_succ]
  refine wpAnyH_ready (rs := [3]) (by kernel_rfl) (by simp) (AllReadyH.cons (o := ⟨none, .store 26 (.tmp 6) (.tmp 32), _, _, _, none⟩) rfl (fun K' hK => ?_) (AllReadyH.nil))
  refine wp_store_blk 26 _ _ rfl (w.heap.size + 1 + 1) 26 zK.cells x.cells rfl rfl b6 (ctl_sz _) rfl (ctl_one _) ?_
  intro w9 b8 o9
  replace b3 := b3.only o9 (by omega)
  replace lw := Below.only lw o9 (by omega)
  refine hK.out _ _ (show World.rangeAt _ w.heap.size 0 x.cells from b3.range 0 14) (fun hHeld => ?_)
  clear hK K'
  try simp only [Act.put]
  refine wpAnyH_take (i := 4) (oi := ⟨some 7, .assign (.tmp 34), _, _, _, none⟩) (v := .int .u32 (x.pend k)) rfl (by kernel_rfl) (by kernel_rfl) (by kernel_rfl) (fun _ _ _ h => h) (Or.inl ⟨by rfl, fun _ _ => rfl⟩) hHeld ?_
  simp only [Act.put, List.setIfInBounds_toArray, List.set_cons_zero, List.set_cons_succ]
  refine wpAnyH_take (i := 5) (oi := ⟨some 8, .assign (.const (.int .i64 0)), _, _, _, none⟩) (v := .int .i64 0) rfl (by kernel_rfl) (by kernel_rfl) (by kernel_rfl) (fun _ _ _ h => h) (Or.inl ⟨by rfl, fun _ _ => rfl⟩) hHeld ?_
  simp only [Act.put, List.setIfInBounds_toArray, List.set_cons_zero, List.set_cons_succ]
  refine wpAnyH_done (by kernel_rfl) ?_ _
  clear hHeld
  go_wp2
  exact bodyPost_ret (ctl_ret3 Try.results12 _ _ (w.heap.size + 1 + 1) x (.int .u32 (x.pend k)) (.int .i64 0) rfl rfl rfl b8) rfl ⟨rfl, lw⟩
set_option maxRecDepth 100000 in
set_option maxHeartbeats 2000000 in
theorem port_inX (x : Ctl) (k : Nat) (p : Int) (v : Int) (w : World) (hx : x.Ok) (_ : x.wf) (hk : (k : Int) < x.n) (_ : Tm.isE v) (h0 : p ≠ 0) (h1 : p ≠ 1) :
    Calls Try.prog 12 #[.agg x.cells.toArray, .int .i64 (k : Int), .agg #[.bool true, .int .i64 p, .int .u32 v]] w fun e w' => e = .returned (.tuple #[.agg x.cells.toArray, .int .u32 0, .int .i64 5]) ∧ Later w w' := by
  have hn4 := hx.n4
  have hk0 : (0 : Int) ≤ k := by omega
  have KH := Lib.hid fun w' => has_any x k w' hn4
  rw [decide_eq_true ⟨hk0, hk⟩] at KH
  have b3 := ((Blk.new w 26 x.cells.toArray x.cells rfl).alloc (.cells (ioC true p v).toArray 28)).alloc (.cells zK.cells.toArray 26)
  have b5 := (Blk.new' (w.alloc (.cells x.cells.toArray 26)) (w.heap.size + 1) 28 (ioC true p v).toArray (ioC true p v) (by simp) rfl).alloc (.cells zK.cells.toArray 26)
  have b6 := Blk.new' ((w.alloc (.cells x.cells.toArray 26)).alloc (.cells (ioC true p v).toArray 28)) (w.heap.size + 1 + 1) 26 zK.cells.toArray zK.cells (by simp) rfl
  have lw := ((later1 w (.cells x.cells.toArray 26)).alloc (by simp) (.cells (ioC true p v).toArray 28)).alloc (by simp; omega) (.cells zK.cells.toArray 26)
  clear hx
  go_enter Try.func12, Try.ntmps12
  go_upto_region 1 with fail
  obtain ⟨u0, hu⟩ : ∃ u0, ((w.alloc (.cells x.cells.toArray 26)).alloc (.cells (ioC true p v).toArray 28)).alloc (.cells zK.cells.toArray 26) = u0 := ⟨_, rfl⟩
  rw [hu] at b3 b5 b6 lw
  have hu2 : ((w.alloc (.cells x.cells.toArray 26)).alloc (.cells #[.bool true, .int .i64 p, .int .u32 v] 28)).alloc (.cells #[.int .i64 0, .int .u32 0, .int .u32 0, .int .u32 0, .int .u32 0, .int .u32 0, .int .u32 0, .int .u32 0, .int .u32 0, .int .i64 0, .int .i64 0, .int .i64 0, .int .i64 0, .int .i64 0] 26) = u0 := hu
  rw [hu2]
  clear hu hu2
  go_upto_region 4 with (first
    | ((with_reducible refine wpList_load_blk (o := ⟨some 14, .load 26 (.tmp 3), _, _, _, none⟩) rfl _ _ rfl w.heap.size 26 x.cells _ ?_ ?_ Try.underlying26 rfl (ctl_sz _) ?_); rfl; exact b3)
    | ((with_reducible refine wpList_load_blk (o := ⟨some 19, .load 26 (.tmp 3), _, _, _, none⟩) rfl _ _ rfl w.heap.size 26 x.cells _ ?_ ?_ Try.underlying26 rfl (ctl_sz _) ?_); rfl; exact b3)
    | (go_at_call 26; (with_reducible refine (KH.out _).mono ?_); rintro e w1 ⟨rfl, l1⟩; replace b3 := b3.keep l1; replace b5 := b5.keep l1; replace b6 := b6.keep l1; replace lw := Later.trans_ lw l1; have hlt : w.heap.size + 1 + 1 < w1.heap.size := b6.lt)
    | ((with_reducible refine wpList_bld (o := ⟨some 21, .build 60 #[(0, .tmp 19), (1, .tmp 20)], _, _, _, none⟩) rfl _ #[(0, .tmp 19), (1, .tmp 20)] #[(0, .agg x.cells.toArray), (1, .int .i64 (k : Int))] (Acs x k).toArray rfl ?_ (run_as x k _) ?_); rfl)
    | ((with_reducible refine wpList_store_abs (o := ⟨none, .store 60 (.tmp 9) (.tmp 21), _, _, _, none⟩) rfl _ _ _ rfl w1.heap.size 60 (Acs zK 0) (Acs x k) ?_ ?_ ?_ ?_ ?_ ?_ ?_); rfl; rfl; exact (Blk.new _ _ _ _ rfl); exact as_sz _ _; rfl; exact as_one _ _; intro v2 b9 o2; replace b3 := (b3.alloc (.cells (Acs zK 0).toArray 60)).only o2 (Nat.ne_of_lt b3.lt); replace b5 := (b5.alloc (.cells (Acs zK 0).toArray 60)).only o2 (Nat.ne_of_lt b5.lt); replace b6 := (b6.alloc (.cells (Acs zK 0).toArray 60)).only o2 (Nat.ne_of_lt b6.lt); replace lw := Below.only (lw.alloc lw.size (.cells (Acs zK 0).toArray 60)) o2 lw.size))
  have e0 := b5.cell (j := 0) (v := .bool true) rfl
  go_upto_region 5 with fail
  clear e0
  have KR := Lib.hid fun w' => rd_any w1.heap.size w'
  have HL := Lib.hid (rd_at (pA w1.heap.size) p (.nilFunc) false (by unfold rdV; simp [h0, h1]) (by unfold rdB; simp [h0, h1]))
  replace b3 := b3.drew
  replace b5 := b5.drew
  replace b6 := b6.drew
  replace b9 := b9.drew
  replace lw := lw.drew
  refine wp_region_held_drew (S := fun w' => w'.cell? ⟨w.heap.size + 1, 1, none⟩ = some (.int .i64 p)) (by kernel_rfl) (b5.cell (j := 1) rfl) (fun hHeld => ?_)
  refine wpAnyH_take (i := 1) (oi := ⟨some 26, .fieldAddr 28 (.tmp 5) 1, _, _, _, none⟩) (v := .pointer (some ⟨w.heap.size + 1, 1, none⟩)) rfl (by kernel_rfl) (by kernel_rfl) (by kernel_rfl) (fun _ _ _ h => h) (Or.inl ⟨by rfl, fun w _ => by go_simp⟩) hHeld ?_
  simp only [Act.put, List.setIfInBounds_toArray, List.set_cons_zero, List.set_cons_succ]
  refine wpAnyH_take (i := 2) (oi := ⟨some 27, .load 3 (.tmp 26), _, _, _, none⟩) (v := .int .i64 p) rfl (by kernel_rfl) (by kernel_rfl) (by kernel_rfl) (fun _ _ _ h => h) (Or.inl ⟨by rfl, fun w hSw => by have e1 := hSw; clear hSw; go_simp⟩) hHeld ?_
  simp only [Act.put, List.setIfInBounds_toArray, List.set_cons_zero, List.set_cons_succ]
  refine wpAnyH_ready (rs := [0]) (by kernel_rfl) (by simp) (AllReadyH.cons (o := ⟨some 25, .call { callee := .value (.func 28), args := #[.tmp 9], argTypes := #[60] }, _, _, _, none⟩) rfl (fun K' hK => ?_) (AllReadyH.nil))
  go_simp
  refine (KR.out _).mono ?_
  rintro e v3 ⟨rfl, hmp, l3⟩
  replace b3 := b3.keep l3
  replace b5 := b5.keep l3
  replace b6 := b6.keep l3
  replace b9 := b9.keep l3
  replace lw := Later.trans_ lw l3
  have hlk := HL.out v2.heap.size _ _ hmp
  clear hmp l3
  refine hK.out _ _ (b5.cell (j := 1) rfl) (fun hHeld => ?_)
  clear hK K'
  try simp only [Act.put, List.setIfInBounds_toArray, List.set_cons_zero, List.set_cons_succ]
  refine wpAnyH_ready (rs := [3]) (by kernel_rfl) (by simp) (AllReadyH.cons (o := ⟨some 28, .lookup 63 (.tmp 25) (.tmp 27) true, _, _, _, none⟩) rfl (fun K' hK => ?_) (AllReadyH.nil))
  go_simp
  clear hlk
  refine hK.out _ _ (b5.cell (j := 1) rfl) (fun hHeld => ?_)
  clear hK K'
  try simp only [Act.put, List.setIfInBounds_toArray, List.set_cons_zero, List.set_cons_succ]
  refine wpAnyH_take (i := 4) (oi := ⟨some 24, .move (.tmp 28), _, _, _, none⟩) (v := (.tuple #[.nilFunc, .bool false])) rfl (by kernel_rfl) (by kernel_rfl) (by kernel_rfl) (fun _ _ _ h => h) (Or.inl ⟨by rfl, fun _ _ => rfl⟩) hHeld ?_
  simp only [Act.put, List.setIfInBounds_toArray, List.set_cons_zero, List.set_cons_succ]
  refine wpAnyH_take (i := 5) (oi := ⟨some 29, .extract (.tmp 24) 0, _, _, _, none⟩) (v := .nilFunc) rfl (by kernel_rfl) (by kernel_rfl) (by kernel_rfl) (fun _ _ _ h => h) (Or.inl ⟨by rfl, fun w _ => by go_simp⟩) hHeld ?_
  simp only [Act.put, List.setIfInBounds_toArray, List.set_cons_zero, List.set_cons_succ]
  refine wpAnyH_take (i := 6) (oi := ⟨some 30, .extract (.tmp 24) 1, _, _, _, none⟩) (v := .bool false) rfl (by kernel_rfl) (by kernel_rfl) (by kernel_rfl) (fun _ _ _ h => h) (Or.inl ⟨by rfl, fun w _ => by go_simp⟩) hHeld ?_
  simp only [Act.put, List.setIfInBounds_toArray, List.set_cons_zero, List.set_cons_succ]
  refine wpAnyH_take (i := 7) (oi := ⟨some 10, .assign (.tmp 29), _, _, _, none⟩) (v := .nilFunc) rfl (by kernel_rfl) (by kernel_rfl) (by kernel_rfl) (fun _ _ _ h => h) (Or.inl ⟨by rfl, fun _ _ => rfl⟩) hHeld ?_
  simp only [Act.put, List.setIfInBounds_toArray, List.set_cons_zero, List.set_cons_succ]
  refine wpAnyH_take (i := 8) (oi := ⟨some 11, .assign (.tmp 30), _, _, _, none⟩) (v := .bool false) rfl (by kernel_rfl) (by kernel_rfl) (by kernel_rfl) (fun _ _ _ h => h) (Or.inl ⟨by rfl, fun _ _ => rfl⟩) hHeld ?_
  simp only [Act.put, List.setIfInBounds_toArray, List.set_cons_zero, List.set_cons_succ]
  refine wpAnyH_done (by kernel_rfl) ?_ _
  clear hHeld
  go_wp2_with (first
    | ((with_reducible refine wpList_load_blk (o := ⟨some 49, .load 26 (.tmp 3), _, _, _, none⟩) rfl _ _ rfl w.heap.size 26 x.cells _ ?_ ?_ Try.underlying26 rfl (ctl_sz _) ?_); rfl; exact b3)
    | ((with_reducible refine wpList_store_abs (o := ⟨none, .store 26 (.tmp 6) (.tmp 49), _, _, _, none⟩) rfl _ _ _ rfl (w.heap.size + 1 + 1) 26 zK.cells x.cells ?_ ?_ ?_ ?_ ?_ ?_ ?_); rfl; rfl; exact b6; exact ctl_sz _; rfl; exact ctl_one _; intro w9 b8 o9))
  exact bodyPost_ret (ctl_ret3 Try.results12 _ _ (w.heap.size + 1 + 1) x (.int .u32 0) (.int .i64 5) rfl rfl rfl b8) rfl ⟨rfl, Below.only lw o9 (by omega)⟩
set_option maxRecDepth 100000 in
set_option maxHeartbeats 2000000 in
theorem port_out0 (x : Ctl) (k : Nat) (v : Int) (w : World) (hx : x.Ok) (_ : x.wf) (hk : (k : Int) < x.n) (hv : Tm.isE v) :
    Calls Try.prog 12 #[.agg x.cells.toArray, .int .i64 (k : Int), .agg #[.bool false, .int .i64 0, .int .u32 v]] w fun e w' => e = .returned (.tuple #[.agg (x.out k 0 v).cells.toArray, .int .u32 0, .int .i64 0]) ∧ Later w w' := by
  have hn4 := hx.n4
  have hk0 : (0 : Int) ≤ k := by omega
  have KH := Lib.hid fun w' => has_any x k w' hn4
  rw [decide_eq_true ⟨hk0, hk⟩] at KH
  have KM := Lib.hid fun (B : Nat) (w' : World) (h : Blk w' B 60 (Acs x k)) => (show Calls Try.prog 42 #[pA B, .int .u32 v] w' fun e w'' => e = .returned (.tuple #[]) ∧ Blk w'' B 60 (Acs (x.out k 0 v) k) ∧ Below B w' w'' from setMask_any h hx hk v hv)
  obtain ⟨Y, hY⟩ : ∃ Y, Y = x.out k 0 v := ⟨_, rfl⟩
  rw [← hY] at KM ⊢
  clear hY
  have b3 := ((Blk.new w 26 x.cells.toArray x.cells rfl).alloc (.cells (ioC false 0 v).toArray 28)).alloc (.cells zK.cells.toArray 26)
  have b5 := (Blk.new' (w.alloc (.cells x.cells.toArray 26)) (w.heap.size + 1) 28 (ioC false 0 v).toArray (ioC false 0 v) (by simp) rfl).alloc (.cells zK.cells.toArray 26)
  have b6 := Blk.new' ((w.alloc (.cells x.cells.toArray 26)).alloc (.cells (ioC false 0 v).toArray 28)) (w.heap.size + 1 + 1) 26 zK.cells.toArray zK.cells (by simp) rfl
  have lw := ((later1 w (.cells x.cells.toArray 26)).alloc (by simp) (.cells (ioC false 0 v).toArray 28)).alloc (by simp; omega) (.cells zK.cells.toArray 26)
  clear hx hv
  go_enter Try.func12, Try.ntmps12
  go_upto_region 1 with fail
  obtain ⟨u0, hu⟩ : ∃ u0, ((w.alloc (.cells x.cells.toArray 26)).alloc (.cells (ioC false 0 v).toArray 28)).alloc (.cells zK.cells.toArray 26) = u0 := ⟨_, rfl⟩
  rw [hu] at b3 b5 b6 lw
  have hu2 : ((w.alloc (.cells x.cells.toArray 26)).alloc (.cells #[.bool false, .int .i64 0, .int .u32 v] 28)).alloc (.cells #[.int .i64 0, .int .u32 0, .int .u32 0, .int .u32 0, .int .u32 0, .int .u32 0, .int .u32 0, .int .u32 0, .int .u32 0, .int .i64 0, .int .i64 0, .int .i64 0, .int .i64 0, .int .i64 0] 26) = u0 := hu
  rw [hu2]
  clear hu hu2
  go_upto_region 4 with (first
    | ((with_reducible refine wpList_load_blk (o := ⟨some 14, .load 26 (.tmp 3), _, _, _, none⟩) rfl _ _ rfl w.heap.size 26 x.cells _ ?_ ?_ Try.underlying26 rfl (ctl_sz _) ?_); rfl; exact b3)
    | ((with_reducible refine wpList_load_blk (o := ⟨some 19, .load 26 (.tmp 3), _, _, _, none⟩) rfl _ _ rfl w.heap.size 26 x.cells _ ?_ ?_ Try.underlying26 rfl (ctl_sz _) ?_); rfl; exact b3)
    | (go_at_call 26; (with_reducible refine (KH.out _).mono ?_); rintro e w1 ⟨rfl, l1⟩; replace b3 := b3.keep l1; replace b5 := b5.keep l1; replace b6 := b6.keep l1; replace lw := Later.trans_ lw l1; have hlt : w.heap.size + 1 + 1 < w1.heap.size := b6.lt)
    | ((with_reducible refine wpList_bld (o := ⟨some 21, .build 60 #[(0, .tmp 19), (1, .tmp 20)], _, _, _, none⟩) rfl _ #[(0, .tmp 19), (1, .tmp 20)] #[(0, .agg x.cells.toArray), (1, .int .i64 (k : Int))] (Acs x k).toArray rfl ?_ (run_as x k _) ?_); rfl)
    | ((with_reducible refine wpList_store_abs (o := ⟨none, .store 60 (.tmp 9) (.tmp 21), _, _, _, none⟩) rfl _ _ _ rfl w1.heap.size 60 (Acs zK 0) (Acs x k) ?_ ?_ ?_ ?_ ?_ ?_ ?_); rfl; rfl; exact (Blk.new _ _ _ _ rfl); exact as_sz _ _; rfl; exact as_one _ _; intro v2 b9 o2; replace b3 := (b3.alloc (.cells (Acs zK 0).toArray 60)).only o2 (Nat.ne_of_lt b3.lt); replace b5 := (b5.alloc (.cells (Acs zK 0).toArray 60)).only o2 (Nat.ne_of_lt b5.lt); replace b6 := (b6.alloc (.cells (Acs zK 0).toArray 60)).only o2 (Nat.ne_of_lt b6.lt); replace lw := Below.only (lw.alloc lw.size (.cells (Acs zK 0).toArray 60)) o2 lw.size))
  have e0 := b5.cell (j := 0) (v := .bool false) rfl
  go_upto_region 8 with fail
  clear e0
  have KR := Lib.hid fun w' => wt_any w1.heap.size w'
  have HL := Lib.hid (wt_at (pA w1.heap.size) 0 (.func (.func 42) #[pA w1.heap.size] #[]) true rfl rfl)
  replace b3 := b3.drew
  replace b5 := b5.drew
  replace b6 := b6.drew
  replace b9 := b9.drew
  replace lw := lw.drew
  refine wp_region_held_drew (S := fun w' => w'.cell? ⟨w.heap.size + 1, 1, none⟩ = some (.int .i64 0)) (by kernel_rfl) (b5.cell (j := 1) rfl) (fun hHeld => ?_)
  refine wpAnyH_take (i := 1) (oi := ⟨some 37, .fieldAddr 28 (.tmp 5) 1, _, _, _, none⟩) (v := .pointer (some ⟨w.heap.size + 1, 1, none⟩)) rfl (by kernel_rfl) (by kernel_rfl) (by kernel_rfl) (fun _ _ _ h => h) (Or.inl ⟨by rfl, fun w _ => by go_simp⟩) hHeld ?_
  simp only [Act.put, List.setIfInBounds_toArray, List.set_cons_zero, List.set_cons_succ]
  refine wpAnyH_take (i := 2) (oi := ⟨some 38, .load 3 (.tmp 37), _, _, _, none⟩) (v := .int .i64 0) rfl (by kernel_rfl) (by kernel_rfl) (by kernel_rfl) (fun _ _ _ h => h) (Or.inl ⟨by rfl, fun w hSw => by have e1 := hSw; clear hSw; go_simp⟩) hHeld ?_
  simp only [Act.put, List.setIfInBounds_toArray, List.set_cons_zero, List.set_cons_succ]
  refine wpAnyH_ready (rs := [0]) (by kernel_rfl) (by simp) (AllReadyH.cons (o := ⟨some 36, .call { callee := .value (.func 29), args := #[.tmp 9], argTypes := #[60] }, _, _, _, none⟩) rfl (fun K' hK => ?_) (AllReadyH.nil))
  go_simp
  refine (KR.out _).mono ?_
  rintro e v3 ⟨rfl, hmp, l3⟩
  replace b3 := b3.keep l3
  replace b5 := b5.keep l3
  replace b6 := b6.keep l3
  replace b9 := b9.keep l3
  replace lw := Later.trans_ lw l3
  have hlk := HL.out v2.heap.size _ _ hmp
  clear hmp l3
  refine hK.out _ _ (b5.cell (j := 1) rfl) (fun hHeld => ?_)
  clear hK K'
  try simp only [Act.put, List.setIfInBounds_toArray, List.set_cons_zero, List.set_cons_succ]
  refine wpAnyH_ready (rs := [3]) (by kernel_rfl) (by simp) (AllReadyH.cons (o := ⟨some 39, .lookup 67 (.tmp 36) (.tmp 38) true, _, _, _, none⟩) rfl (fun K' hK => ?_) (AllReadyH.nil))
  go_simp
  clear hlk
  refine hK.out _ _ (b5.cell (j := 1) rfl) (fun hHeld => ?_)
  clear hK K'
  try simp only [Act.put, List.setIfInBounds_toArray, List.set_cons_zero, List.set_cons_succ]
  refine wpAnyH_take (i := 4) (oi := ⟨some 35, .move (.tmp 39), _, _, _, none⟩) (v := (.tuple #[.func (.func 42) #[pA w1.heap.size] #[], .bool true])) rfl (by kernel_rfl) (by kernel_rfl) (by kernel_rfl) (fun _ _ _ h => h) (Or.inl ⟨by rfl, fun _ _ => rfl⟩) hHeld ?_
  simp only [Act.put, List.setIfInBounds_toArray, List.set_cons_zero, List.set_cons_succ]
  refine wpAnyH_take (i := 5) (oi := ⟨some 40, .extract (.tmp 35) 0, _, _, _, none⟩) (v := .func (.func 42) #[pA w1.heap.size] #[]) rfl (by kernel_rfl) (by kernel_rfl) (by kernel_rfl) (fun _ _ _ h => h) (Or.inl ⟨by rfl, fun w _ => by go_simp⟩) hHeld ?_
  simp only [Act.put, List.setIfInBounds_toArray, List.set_cons_zero, List.set_cons_succ]
  refine wpAnyH_take (i := 6) (oi := ⟨some 41, .extract (.tmp 35) 1, _, _, _, none⟩) (v := .bool true) rfl (by kernel_rfl) (by kernel_rfl) (by kernel_rfl) (fun _ _ _ h => h) (Or.inl ⟨by rfl, fun w _ => by go_simp⟩) hHeld ?_
  simp only [Act.put, List.setIfInBounds_toArray, List.set_cons_zero, List.set_cons_succ]
  refine wpAnyH_take (i := 7) (oi := ⟨some 12, .assign (.tmp 40), _, _, _, none⟩) (v := .func (.func 42) #[pA w1.heap.size] #[]) rfl (by kernel_rfl) (by kernel_rfl) (by kernel_rfl) (fun _ _ _ h => h) (Or.inl ⟨by rfl, fun _ _ => rfl⟩) hHeld ?_
  simp only [Act.put, List.setIfInBounds_toArray, List.set_cons_zero, List.set_cons_succ]
  refine wpAnyH_take (i := 8) (oi := ⟨some 13, .assign (.tmp 41), _, _, _, none⟩) (v := .bool true) rfl (by kernel_rfl) (by kernel_rfl) (by kernel_rfl) (fun _ _ _ h => h) (Or.inl ⟨by rfl, fun _ _ => rfl⟩) hHeld ?_
  simp only [Act.put, List.setIfInBounds_toArray, List.set_cons_zero, List.set_cons_succ]
  refine wpAnyH_done (by kernel_rfl) ?_ _
  clear hHeld
  have e2 := b5.cell (j := 2) (v := .int .u32 v) rfl
  go_wp2_with (first
    | (go_at_call 42; (with_reducible refine (KM.out _ _ b9).mono ?_); rintro e v4 ⟨rfl, b9n, l4⟩; clear e2; replace b3 := b3.later l4 (by omega); replace b5 := b5.later l4 (by omega); replace b6 := b6.later l4 (by omega); replace lw := Below.trans lw (l4.mono (by omega)))
    | ((with_reducible refine wpList_load_at (o := ⟨some 48, .load 26 (.tmp 47), _, _, _, none⟩) rfl _ _ rfl w1.heap.size 0 14 60 (Acs Y k) Y.cells _ ?_ ?_ (as_drop Y k) Try.underlying26 rfl (ctl_sz _) ?_); rfl; exact b9n)
    | ((with_reducible refine wpList_store_abs (o := ⟨none, .store 26 (.tmp 6) (.tmp 48), _, _, _, none⟩) rfl _ _ _ rfl (w.heap.size + 1 + 1) 26 zK.cells Y.cells ?_ ?_ ?_ ?_ ?_ ?_ ?_); rfl; rfl; exact b6; exact ctl_sz _; rfl; exact ctl_one _; intro w9 b8 o9))
  exact bodyPost_ret (ctl_ret3 Try.results12 _ _ (w.heap.size + 1 + 1) Y (.int .u32 0) (.int .i64 0) rfl rfl rfl b8) rfl ⟨rfl, Below.only lw o9 (by omega)⟩
set_option maxRecDepth 100000 in
set_option maxHeartbeats 2000000 in
theorem port_out2 (x : Ctl) (k : Nat) (v : Int) (w : World) (hx : x.Ok) (hw : x.wf) (hk : (k : Int) < x.n) (hv : Tm.isE v) :
    Calls Try.prog 12 #[.agg x.cells.toArray, .int .i64 (k : Int), .agg #[.bool false, .int .i64 2, .int .u32 v]] w fun e w' => e = .returned (.tuple #[.agg (x.out k 2 v).cells.toArray, .int .u32 0, .int .i64 0]) ∧ Later w w' := by
  have hn4 := hx.n4
  have hk0 : (0 : Int) ≤ k := by omega
  have KH := Lib.hid fun w' => has_any x k w' hn4
  rw [decide_eq_true ⟨hk0, hk⟩] at KH
  have KM := Lib.hid fun (B : Nat) (w' : World) (h : Blk w' B 60 (Acs x k)) => (show Calls Try.prog 43 #[pA B, .int .u32 v] w' fun e w'' => e = .returned (.tuple #[]) ∧ Blk w'' B 60 (Acs (x.out k 2 v) k) ∧ Below B w' w'' from ack_any h hx hw hk v hv)
  obtain ⟨Y, hY⟩ : ∃ Y, Y = x.out k 2 v := ⟨_, rfl⟩
  rw [← hY] at KM ⊢
  clear hY
  have b3 := ((Blk.new w 26 x.cells.toArray x.cells rfl).alloc (.cells (ioC false 2 v).toArray 28)).alloc (.cells zK.cells.toArray 26)
  have b5 := (Blk.new' (w.alloc (.cells x.cells.toArray 26)) (w.heap.size + 1) 28 (ioC false 2 v).toArray (ioC false 2 v) (by simp) rfl).alloc (.cells zK.cells.toArray 26)
  have b6 := Blk.new' ((w.alloc (.cells x.cells.toArray 26)).alloc (.cells (ioC false 2 v).toArray 28)) (w.heap.size + 1 + 1) 26 zK.cells.toArray zK.cells (by simp) rfl
  have lw := ((later1 w (.cells x.cells.toArray 26)).alloc (by simp) (.cells (ioC false 2 v).toArray 28)).alloc (by simp; omega) (.cells zK.cells.toArray 26)
  clear hx hw hv
  go_enter Try.func12, Try.ntmps12
  go_upto_region 1 with fail
  obtain ⟨u0, hu⟩ : ∃ u0, ((w.alloc (.cells x.cells.toArray 26)).alloc (.cells (ioC false 2 v).toArray 28)).alloc (.cells zK.cells.toArray 26) = u0 := ⟨_, rfl⟩
  rw [hu] at b3 b5 b6 lw
  have hu2 : ((w.alloc (.cells x.cells.toArray 26)).alloc (.cells #[.bool false, .int .i64 2, .int .u32 v] 28)).alloc (.cells #[.int .i64 0, .int .u32 0, .int .u32 0, .int .u32 0, .int .u32 0, .int .u32 0, .int .u32 0, .int .u32 0, .int .u32 0, .int .i64 0, .int .i64 0, .int .i64 0, .int .i64 0, .int .i64 0] 26) = u0 := hu
  rw [hu2]
  clear hu hu2
  go_upto_region 4 with (first
    | ((with_reducible refine wpList_load_blk (o := ⟨some 14, .load 26 (.tmp 3), _, _, _, none⟩) rfl _ _ rfl w.heap.size 26 x.cells _ ?_ ?_ Try.underlying26 rfl (ctl_sz _) ?_); rfl; exact b3)
    | ((with_reducible refine wpList_load_blk (o := ⟨some 19, .load 26 (.tmp 3), _, _, _, none⟩) rfl _ _ rfl w.heap.size 26 x.cells _ ?_ ?_ Try.underlying26 rfl (ctl_sz _) ?_); rfl; exact b3)
    | (go_at_call 26; (with_reducible refine (KH.out _).mono ?_); rintro e w1 ⟨rfl, l1⟩; replace b3 := b3.keep l1; replace b5 := b5.keep l1; replace b6 := b6.keep l1; replace lw := Later.trans_ lw l1; have hlt : w.heap.size + 1 + 1 < w1.heap.size := b6.lt)
    | ((with_reducible refine wpList_bld (o := ⟨some 21, .build 60 #[(0, .tmp 19), (1, .tmp 20)], _, _, _, none⟩) rfl _ #[(0, .tmp 19), (1, .tmp 20)] #[(0, .agg x.cells.toArray), (1, .int .i64 (k : Int))] (Acs x k).toArray rfl ?_ (run_as x k _) ?_); rfl)
    | ((with_reducible refine wpList_store_abs (o := ⟨none, .store 60 (.tmp 9) (.tmp 21), _, _, _, none⟩) rfl _ _ _ rfl w1.heap.size 60 (Acs zK 0) (Acs x k) ?_ ?_ ?_ ?_ ?_ ?_ ?_); rfl; rfl; exact (Blk.new _ _ _ _ rfl); exact as_sz _ _; rfl; exact as_one _ _; intro v2 b9 o2; replace b3 := (b3.alloc (.cells (Acs zK 0).toArray 60)).only o2 (Nat.ne_of_lt b3.lt); replace b5 := (b5.alloc (.cells (Acs zK 0).toArray 60)).only o2 (Nat.ne_of_lt b5.lt); replace b6 := (b6.alloc (.cells (Acs zK 0).toArray 60)).only o2 (Nat.ne_of_lt b6.lt); replace lw := Below.only (lw.alloc lw.size (.cells (Acs zK 0).toArray 60)) o2 lw.size))
  have e0 := b5.cell (j := 0) (v := .bool false) rfl
  go_upto_region 8 with fail
  clear e0
  have KR := Lib.hid fun w' => wt_any w1.heap.size w'
  have HL := Lib.hid (wt_at (pA w1.heap.size) 2 (.func (.func 43) #[pA w1.heap.size] #[]) true rfl rfl)
  replace b3 := b3.drew
  replace b5 := b5.drew
  replace b6 := b6.drew
  replace b9 := b9.drew
  replace lw := lw.drew
  refine wp_region_held_drew (S := fun w' => w'.cell? ⟨w.heap.size + 1, 1, none⟩ = some (.int .i64 2)) (by kernel_rfl) (b5.cell (j := 1) rfl) (fun hHeld => ?_)
  refine wpAnyH_take (i := 1) (oi := ⟨some 37, .fieldAddr 28 (.tmp 5) 1, _, _, _, none⟩) (v := .pointer (some ⟨w.heap.size + 1, 1, none⟩)) rfl (by kernel_rfl) (by kernel_rfl) (by kernel_rfl) (fun _ _ _ h => h) (Or.inl ⟨by rfl, fun w _ => by go_simp⟩) hHeld ?_
  simp only [Act.put, List.setIfInBounds_toArray, List.set_cons_zero, List.set_cons_succ]
  refine wpAnyH_take (i := 2) (oi := ⟨some 38, .load 3 (.tmp 37), _, _, _, none⟩) (v := .int .i64 2) rfl (by kernel_rfl) (by kernel_rfl) (by kernel_rfl) (fun _ _ _ h => h) (Or.inl ⟨by rfl, fun w hSw => by have e1 := hSw; clear hSw; go_simp⟩) hHeld ?_
  simp only [Act.put, List.setIfInBounds_toArray, List.set_cons_zero, List.set_cons_succ]
  refine wpAnyH_ready (rs := [0]) (by kernel_rfl) (by simp) (AllReadyH.cons (o := ⟨some 36, .call { callee := .value (.func 29), args := #[.tmp 9], argTypes := #[60] }, _, _, _, none⟩) rfl (fun K' hK => ?_) (AllReadyH.nil))
  go_simp
  refine (KR.out _).mono ?_
  rintro e v3 ⟨rfl, hmp, l3⟩
  replace b3 := b3.keep l3
  replace b5 := b5.keep l3
  replace b6 := b6.keep l3
  replace b9 := b9.keep l3
  replace lw := Later.trans_ lw l3
  have hlk := HL.out v2.heap.size _ _ hmp
  clear hmp l3
  refine hK.out _ _ (b5.cell (j := 1) rfl) (fun hHeld => ?_)
  clear hK K'
  try simp only [Act.put, List.setIfInBounds_toArray, List.set_cons_zero, List.set_cons_succ]
  refine wpAnyH_ready (rs := [3]) (by kernel_rfl) (by simp) (AllReadyH.cons (o := ⟨some 39, .lookup 67 (.tmp 36) (.tmp 38) true, _, _, _, none⟩) rfl (fun K' hK => ?_) (AllReadyH.nil))
  go_simp
  clear hlk
  refine hK.out _ _ (b5.cell (j := 1) rfl) (fun hHeld => ?_)
  clear hK K'
  try simp only [Act.put, List.setIfInBounds_toArray, List.set_cons_zero, List.set_cons_succ]
  refine wpAnyH_take (i := 4) (oi := ⟨some 35, .move (.tmp 39), _, _, _, none⟩) (v := (.tuple #[.func (.func 43) #[pA w1.heap.size] #[], .bool true])) rfl (by kernel_rfl) (by kernel_rfl) (by kernel_rfl) (fun _ _ _ h => h) (Or.inl ⟨by rfl, fun _ _ => rfl⟩) hHeld ?_
  simp only [Act.put, List.setIfInBounds_toArray, List.set_cons_zero, List.set_cons_succ]
  refine wpAnyH_take (i := 5) (oi := ⟨some 40, .extract (.tmp 35) 0, _, _, _, none⟩) (v := .func (.func 43) #[pA w1.heap.size] #[]) rfl (by kernel_rfl) (by kernel_rfl) (by kernel_rfl) (fun _ _ _ h => h) (Or.inl ⟨by rfl, fun w _ => by go_simp⟩) hHeld ?_
  simp only [Act.put, List.setIfInBounds_toArray, List.set_cons_zero, List.set_cons_succ]
  refine wpAnyH_take (i := 6) (oi := ⟨some 41, .extract (.tmp 35) 1, _, _, _, none⟩) (v := .bool true) rfl (by kernel_rfl) (by kernel_rfl) (by kernel_rfl) (fun _ _ _ h => h) (Or.inl ⟨by rfl, fun w _ => by go_simp⟩) hHeld ?_
  simp only [Act.put, List.setIfInBounds_toArray, List.set_cons_zero, List.set_cons_succ]
  refine wpAnyH_take (i := 7) (oi := ⟨some 12, .assign (.tmp 40), _, _, _, none⟩) (v := .func (.func 43) #[pA w1.heap.size] #[]) rfl (by kernel_rfl) (by kernel_rfl) (by kernel_rfl) (fun _ _ _ h => h) (Or.inl ⟨by rfl, fun _ _ => rfl⟩) hHeld ?_
  simp only [Act.put, List.setIfInBounds_toArray, List.set_cons_zero, List.set_cons_succ]
  refine wpAnyH_take (i := 8) (oi := ⟨some 13, .assign (.tmp 41), _, _, _, none⟩) (v := .bool true) rfl (by kernel_rfl) (by kernel_rfl) (by kernel_rfl) (fun _ _ _ h => h) (Or.inl ⟨by rfl, fun _ _ => rfl⟩) hHeld ?_
  simp only [Act.put, List.setIfInBounds_toArray, List.set_cons_zero, List.set_cons_succ]
  refine wpAnyH_done (by kernel_rfl) ?_ _
  clear hHeld
  have e2 := b5.cell (j := 2) (v := .int .u32 v) rfl
  go_wp2_with (first
    | (go_at_call 43; (with_reducible refine (KM.out _ _ b9).mono ?_); rintro e v4 ⟨rfl, b9n, l4⟩; clear e2; replace b3 := b3.later l4 (by omega); replace b5 := b5.later l4 (by omega); replace b6 := b6.later l4 (by omega); replace lw := Below.trans lw (l4.mono (by omega)))
    | ((with_reducible refine wpList_load_at (o := ⟨some 48, .load 26 (.tmp 47), _, _, _, none⟩) rfl _ _ rfl w1.heap.size 0 14 60 (Acs Y k) Y.cells _ ?_ ?_ (as_drop Y k) Try.underlying26 rfl (ctl_sz _) ?_); rfl; exact b9n)
    | ((with_reducible refine wpList_store_abs (o := ⟨none, .store 26 (.tmp 6) (.tmp 48), _, _, _, none⟩) rfl _ _ _ rfl (w.heap.size + 1 + 1) 26 zK.cells Y.cells ?_ ?_ ?_ ?_ ?_ ?_ ?_); rfl; rfl; exact b6; exact ctl_sz _; rfl; exact ctl_one _; intro w9 b8 o9))
  exact bodyPost_ret (ctl_ret3 Try.results12 _ _ (w.heap.size + 1 + 1) Y (.int .u32 0) (.int .i64 0) rfl rfl rfl b8) rfl ⟨rfl, Below.only lw o9 (by omega)⟩
set_option maxRecDepth 100000 in
set_option maxHeartbeats 2000000 in
theorem port_out3 (x : Ctl) (k : Nat) (v : Int) (w : World) (hx : x.Ok) (hw : x.wf) (hk : (k : Int) < x.n) (hv : Tm.isE v) :
    Calls Try.prog 12 #[.agg x.cells.toArray, .int .i64 (k : Int), .agg #[.bool false, .int .i64 3, .int .u32 v]] w fun e w' => e = .returned (.tuple #[.agg (x.out k 3 v).cells.toArray, .int .u32 0, .int .i64 0]) ∧ Later w w' := by
  have hn4 := hx.n4
  have hk0 : (0 : Int) ≤ k := by omega
  have KH := Lib.hid fun w' => has_any x k w' hn4
  rw [decide_eq_true ⟨hk0, hk⟩] at KH
  have KM := Lib.hid fun (B : Nat) (w' : World) (h : Blk w' B 60 (Acs x k)) => (show Calls Try.prog 44 #[pA B, .int .u32 v] w' fun e w'' => e = .returned (.tuple #[]) ∧ Blk w'' B 60 (Acs (x.out k 3 v) k) ∧ Below B w' w'' from signal_any h hx hw v hv)
  obtain ⟨Y, hY⟩ : ∃ Y, Y = x.out k 3 v := ⟨_, rfl⟩
  rw [← hY] at KM ⊢
  clear hY
  have b3 := ((Blk.new w 26 x.cells.toArray x.cells rfl).alloc (.cells (ioC false 3 v).toArray 28)).alloc (.cells zK.cells.toArray 26)
  have b5 := (Blk.new' (w.alloc (.cells x.cells.toArray 26)) (w.heap.size + 1) 28 (ioC false 3 v).toArray (ioC false 3 v) (by simp) rfl).alloc (.cells zK.cells.toArray 26)
  have b6 := Blk.new' ((w.alloc (.cells x.cells.toArray 26)).alloc (.cells (ioC false 3 v).toArray 28)) (w.heap.size + 1 + 1) 26 zK.cells.toArray zK.cells (by simp) rfl
  have lw := ((later1 w (.cells x.cells.toArray 26)).alloc (by simp) (.cells (ioC false 3 v).toArray 28)).alloc (by simp; omega) (.cells zK.cells.toArray 26)
  clear hx hw hv
  go_enter Try.func12, Try.ntmps12
  go_upto_region 1 with fail
  obtain ⟨u0, hu⟩ : ∃ u0, ((w.alloc (.cells x.cells.toArray 26)).alloc (.cells (ioC false 3 v).toArray 28)).alloc (.cells zK.cells.toArray 26) = u0 := ⟨_, rfl⟩
  rw [hu] at b3 b5 b6 lw
  have hu2 : ((w.alloc (.cells x.cells.toArray 26)).alloc (.cells #[.bool false, .int .i64 3, .int .u32 v] 28)).alloc (.cells #[.int .i64 0, .int .u32 0, .int .u32 0, .int .u32 0, .int .u32 0, .int .u32 0, .int .u32 0, .int .u32 0, .int .u32 0, .int .i64 0, .int .i64 0, .int .i64 0, .int .i64 0, .int .i64 0] 26) = u0 := hu
  rw [hu2]
  clear hu hu2
  go_upto_region 4 with (first
    | ((with_reducible refine wpList_load_blk (o := ⟨some 14, .load 26 (.tmp 3), _, _, _, none⟩) rfl _ _ rfl w.heap.size 26 x.cells _ ?_ ?_ Try.underlying26 rfl (ctl_sz _) ?_); rfl; exact b3)
    | ((with_reducible refine wpList_load_blk (o := ⟨some 19, .load 26 (.tmp 3), _, _, _, none⟩) rfl _ _ rfl w.heap.size 26 x.cells _ ?_ ?_ Try.underlying26 rfl (ctl_sz _) ?_); rfl; exact b3)
    | (go_at_call 26; (with_reducible refine (KH.out _).mono ?_); rintro e w1 ⟨rfl, l1⟩; replace b3 := b3.keep l1; replace b5 := b5.keep l1; replace b6 := b6.keep l1; replace lw := Later.trans_ lw l1; have hlt : w.heap.size + 1 + 1 < w1.heap.size := b6.lt)
    | ((with_reducible refine wpList_bld (o := ⟨some 21, .build 60 #[(0, .tmp 19), (1, .tmp 20)], _, _, _, none⟩) rfl _ #[(0, .tmp 19), (1, .tmp 20)] #[(0, .agg x.cells.toArray), (1, .int .i64 (k : Int))] (Acs x k).toArray rfl ?_ (run_as x k _) ?_); rfl)
    | ((with_reducible refine wpList_store_abs (o := ⟨none, .store 60 (.tmp 9) (.tmp 21), _, _, _, none⟩) rfl _ _ _ rfl w1.heap.size 60 (Acs zK 0) (Acs x k) ?_ ?_ ?_ ?_ ?_ ?_ ?_); rfl; rfl; exact (Blk.new _ _ _ _ rfl); exact as_sz _ _; rfl; exact as_one _ _; intro v2 b9 o2; replace b3 := (b3.alloc (.cells (Acs zK 0).toArray 60)).only o2 (Nat.ne_of_lt b3.lt); replace b5 := (b5.alloc (.cells (Acs zK 0).toArray 60)).only o2 (Nat.ne_of_lt b5.lt); replace b6 := (b6.alloc (.cells (Acs zK 0).toArray 60)).only o2 (Nat.ne_of_lt b6.lt); replace lw := Below.only (lw.alloc lw.size (.cells (Acs zK 0).toArray 60)) o2 lw.size))
  have e0 := b5.cell (j := 0) (v := .bool false) rfl
  go_upto_region 8 with fail
  clear e0
  have KR := Lib.hid fun w' => wt_any w1.heap.size w'
  have HL := Lib.hid (wt_at (pA w1.heap.size) 3 (.func (.func 44) #[pA w1.heap.size] #[]) true rfl rfl)
  replace b3 := b3.drew
  replace b5 := b5.drew
  replace b6 := b6.drew
  replace b9 := b9.drew
  replace lw := lw.drew
  refine wp_region_held_drew (S := fun w' => w'.cell? ⟨w.heap.size + 1, 1, none⟩ = some (.int .i64 3)) (by kernel_rfl) (b5.cell (j := 1) rfl) (fun hHeld => ?_)
  refine wpAnyH_take (i := 1) (oi := ⟨some 37, .fieldAddr 28 (.tmp 5) 1, _, _, _, none⟩) (v := .pointer (some ⟨w.heap.size + 1, 1, none⟩)) rfl (by kernel_rfl) (by kernel_rfl) (by kernel_rfl) (fun _ _ _ h => h) (Or.inl ⟨by rfl, fun w _ => by go_simp⟩) hHeld ?_
  simp only [Act.put, List.setIfInBounds_toArray, List.set_cons_zero, List.set_cons_succ]
  refine wpAnyH_take (i := 2) (oi := ⟨some 38, .load 3 (.tmp 37), _, _, _, none⟩) (v := .int .i64 3) rfl (by kernel_rfl) (by kernel_rfl) (by kernel_rfl) (fun _ _ _ h => h) (Or.inl ⟨by rfl, fun w hSw => by have e1 := hSw; clear hSw; go_simp⟩) hHeld ?_
  simp only [Act.put, List.setIfInBounds_toArray, List.set_cons_zero, List.set_cons_succ]
  refine wpAnyH_ready (rs := [0]) (by kernel_rfl) (by simp) (AllReadyH.cons (o := ⟨some 36, .call { callee := .value (.func 29), args := #[.tmp 9], argTypes := #[60] }, _, _, _, none⟩) rfl (fun K' hK => ?_) (AllReadyH.nil))
  go_simp
  refine (KR.out _).mono ?_
  rintro e v3 ⟨rfl, hmp, l3⟩
  replace b3 := b3.keep l3
  replace b5 := b5.keep l3
  replace b6 := b6.keep l3
  replace b9 := b9.keep l3
  replace lw := Later.trans_ lw l3
  have hlk := HL.out v2.heap.size _ _ hmp
  clear hmp l3
  refine hK.out _ _ (b5.cell (j := 1) rfl) (fun hHeld => ?_)
  clear hK K'
  try simp only [Act.put, List.setIfInBounds_toArray, List.set_cons_zero, List.set_cons_succ]
  refine wpAnyH_ready (rs := [3]) (by kernel_rfl) (by simp) (AllReadyH.cons (o := ⟨some 39, .lookup 67 (.tmp 36) (.tmp 38) true, _, _, _, none⟩) rfl (fun K' hK => ?_) (AllReadyH.nil))
  go_simp
  clear hlk
  refine hK.out _ _ (b5.cell (j := 1) rfl) (fun hHeld => ?_)
  clear hK K'
  try simp only [Act.put, List.setIfInBounds_toArray, List.set_cons_zero, List.set_cons_succ]
  refine wpAnyH_take (i := 4) (oi := ⟨some 35, .move (.tmp 39), _, _, _, none⟩) (v := (.tuple #[.func (.func 44) #[pA w1.heap.size] #[], .bool true])) rfl (by kernel_rfl) (by kernel_rfl) (by kernel_rfl) (fun _ _ _ h => h) (Or.inl ⟨by rfl, fun _ _ => rfl⟩) hHeld ?_
  simp only [Act.put, List.setIfInBounds_toArray, List.set_cons_zero, List.set_cons_succ]
  refine wpAnyH_take (i := 5) (oi := ⟨some 40, .extract (.tmp 35) 0, _, _, _, none⟩) (v := .func (.func 44) #[pA w1.heap.size] #[]) rfl (by kernel_rfl) (by kernel_rfl) (by kernel_rfl) (fun _ _ _ h => h) (Or.inl ⟨by rfl, fun w _ => by go_simp⟩) hHeld ?_
  simp only [Act.put, List.setIfInBounds_toArray, List.set_cons_zero, List.set_cons_succ]
  refine wpAnyH_take (i := 6) (oi := ⟨some 41, .extract (.tmp 35) 1, _, _, _, none⟩) (v := .bool true) rfl (by kernel_rfl) (by kernel_rfl) (by kernel_rfl) (fun _ _ _ h => h) (Or.inl ⟨by rfl, fun w _ => by go_simp⟩) hHeld ?_
  simp only [Act.put, List.setIfInBounds_toArray, List.set_cons_zero, List.set_cons_succ]
  refine wpAnyH_take (i := 7) (oi := ⟨some 12, .assign (.tmp 40), _, _, _, none⟩) (v := .func (.func 44) #[pA w1.heap.size] #[]) rfl (by kernel_rfl) (by kernel_rfl) (by kernel_rfl) (fun _ _ _ h => h) (Or.inl ⟨by rfl, fun _ _ => rfl⟩) hHeld ?_
  simp only [Act.put, List.setIfInBounds_toArray, List.set_cons_zero, List.set_cons_succ]
  refine wpAnyH_take (i := 8) (oi := ⟨some 13, .assign (.tmp 41), _, _, _, none⟩) (v := .bool true) rfl (by kernel_rfl) (by kernel_rfl) (by kernel_rfl) (fun _ _ _ h => h) (Or.inl ⟨by rfl, fun _ _ => rfl⟩) hHeld ?_
  simp only [Act.put, List.setIfInBounds_toArray, List.set_cons_zero, List.set_cons_succ]
  refine wpAnyH_done (by kernel_rfl) ?_ _
  clear hHeld
  have e2 := b5.cell (j := 2) (v := .int .u32 v) rfl
  go_wp2_with (first
    | (go_at_call 44; (with_reducible refine (KM.out _ _ b9).mono ?_); rintro e v4 ⟨rfl, b9n, l4⟩; clear e2; replace b3 := b3.later l4 (by omega); replace b5 := b5.later l4 (by omega); replace b6 := b6.later l4 (by omega); replace lw := Below.trans lw (l4.mono (by omega)))
    | ((with_reducible refine wpList_load_at (o := ⟨some 48, .load 26 (.tmp 47), _, _, _, none⟩) rfl _ _ rfl w1.heap.size 0 14 60 (Acs Y k) Y.cells _ ?_ ?_ (as_drop Y k) Try.underlying26 rfl (ctl_sz _) ?_); rfl; exact b9n)
    | ((with_reducible refine wpList_store_abs (o := ⟨none, .store 26 (.tmp 6) (.tmp 48), _, _, _, none⟩) rfl _ _ _ rfl (w.heap.size + 1 + 1) 26 zK.cells Y.cells ?_ ?_ ?_ ?_ ?_ ?_ ?_); rfl; rfl; exact b6; exact ctl_sz _; rfl; exact ctl_one _; intro w9 b8 o9))
  exact bodyPost_ret (ctl_ret3 Try.results12 _ _ (w.heap.size + 1 + 1) Y (.int .u32 0) (.int .i64 0) rfl rfl rfl b8) rfl ⟨rfl, Below.only lw o9 (by omega)⟩
set_option maxRecDepth 100000 in
set_option maxHeartbeats 2000000 in
theorem port_out4 (x : Ctl) (k : Nat) (v : Int) (w : World) (hx : x.Ok) (_ : x.wf) (hk : (k : Int) < x.n) (hv : Tm.isE v) :
    Calls Try.prog 12 #[.agg x.cells.toArray, .int .i64 (k : Int), .agg #[.bool false, .int .i64 4, .int .u32 v]] w fun e w' => e = .returned (.tuple #[.agg (x.out k 4 v).cells.toArray, .int .u32 0, .int .i64 0]) ∧ Later w w' := by
  have hn4 := hx.n4
  have hk0 : (0 : Int) ≤ k := by omega
  have KH := Lib.hid fun w' => has_any x k w' hn4
  rw [decide_eq_true ⟨hk0, hk⟩] at KH
  have KM := Lib.hid fun (B : Nat) (w' : World) (h : Blk w' B 60 (Acs x k)) => (show Calls Try.prog 45 #[pA B, .int .u32 v] w' fun e w'' => e = .returned (.tuple #[]) ∧ Blk w'' B 60 (Acs (x.out k 4 v) k) ∧ Below B w' w'' from route_any h hx hk v hv)
  obtain ⟨Y, hY⟩ : ∃ Y, Y = x.out k 4 v := ⟨_, rfl⟩
  rw [← hY] at KM ⊢
  clear hY
  have b3 := ((Blk.new w 26 x.cells.toArray x.cells rfl).alloc (.cells (ioC false 4 v).toArray 28)).alloc (.cells zK.cells.toArray 26)
  have b5 := (Blk.new' (w.alloc (.cells x.cells.toArray 26)) (w.heap.size + 1) 28 (ioC false 4 v).toArray (ioC false 4 v) (by simp) rfl).alloc (.cells zK.cells.toArray 26)
  have b6 := Blk.new' ((w.alloc (.cells x.cells.toArray 26)).alloc (.cells (ioC false 4 v).toArray 28)) (w.heap.size + 1 + 1) 26 zK.cells.toArray zK.cells (by simp) rfl
  have lw := ((later1 w (.cells x.cells.toArray 26)).alloc (by simp) (.cells (ioC false 4 v).toArray 28)).alloc (by simp; omega) (.cells zK.cells.toArray 26)
  clear hx hv
  go_enter Try.func12, Try.ntmps12
  go_upto_region 1 with fail
  obtain ⟨u0, hu⟩ : ∃ u0, ((w.alloc (.cells x.cells.toArray 26)).alloc (.cells (ioC false 4 v).toArray 28)).alloc (.cells zK.cells.toArray 26) = u0 := ⟨_, rfl⟩
  rw [hu] at b3 b5 b6 lw
  have hu2 : ((w.alloc (.cells x.cells.toArray 26)).alloc (.cells #[.bool false, .int .i64 4, .int .u32 v] 28)).alloc (.cells #[.int .i64 0, .int .u32 0, .int .u32 0, .int .u32 0, .int .u32 0, .int .u32 0, .int .u32 0, .int .u32 0, .int .u32 0, .int .i64 0, .int .i64 0, .int .i64 0, .int .i64 0, .int .i64 0] 26) = u0 := hu
  rw [hu2]
  clear hu hu2
  go_upto_region 4 with (first
    | ((with_reducible refine wpList_load_blk (o := ⟨some 14, .load 26 (.tmp 3), _, _, _, none⟩) rfl _ _ rfl w.heap.size 26 x.cells _ ?_ ?_ Try.underlying26 rfl (ctl_sz _) ?_); rfl; exact b3)
    | ((with_reducible refine wpList_load_blk (o := ⟨some 19, .load 26 (.tmp 3), _, _, _, none⟩) rfl _ _ rfl w.heap.size 26 x.cells _ ?_ ?_ Try.underlying26 rfl (ctl_sz _) ?_); rfl; exact b3)
    | (go_at_call 26; (with_reducible refine (KH.out _).mono ?_); rintro e w1 ⟨rfl, l1⟩; replace b3 := b3.keep l1; replace b5 := b5.keep l1; replace b6 := b6.keep l1; replace lw := Later.trans_ lw l1; have hlt : w.heap.size + 1 + 1 < w1.heap.size := b6.lt)
    | ((with_reducible refine wpList_bld (o := ⟨some 21, .build 60 #[(0, .tmp 19), (1, .tmp 20)], _, _, _, none⟩) rfl _ #[(0, .tmp 19), (1, .tmp 20)] #[(0, .agg x.cells.toArray), (1, .int .i64 (k : Int))] (Acs x k).toArray rfl ?_ (run_as x k _) ?_); rfl)
    | ((with_reducible refine wpList_store_abs (o := ⟨none, .store 60 (.tmp 9) (.tmp 21), _, _, _, none⟩) rfl _ _ _ rfl w1.heap.size 60 (Acs zK 0) (Acs x k) ?_ ?_ ?_ ?_ ?_ ?_ ?_); rfl; rfl; exact (Blk.new _ _ _ _ rfl); exact as_sz _ _; rfl; exact as_one _ _; intro v2 b9 o2; replace b3 := (b3.alloc (.cells (Acs zK 0).toArray 60)).only o2 (Nat.ne_of_lt b3.lt); replace b5 := (b5.alloc (.cells (Acs zK 0).toArray 60)).only o2 (Nat.ne_of_lt b5.lt); replace b6 := (b6.alloc (.cells (Acs zK 0).toArray 60)).only o2 (Nat.ne_of_lt b6.lt); replace lw := Below.only (lw.alloc lw.size (.cells (Acs zK 0).toArray 60)) o2 lw.size))
  have e0 := b5.cell (j := 0) (v := .bool false) rfl
  go_upto_region 8 with fail
  clear e0
  have KR := Lib.hid fun w' => wt_any w1.heap.size w'
  have HL := Lib.hid (wt_at (pA w1.heap.size) 4 (.func (.func 45) #[pA w1.heap.size] #[]) true rfl rfl)
  replace b3 := b3.drew
  replace b5 := b5.drew
  replace b6 := b6.drew
  replace b9 := b9.drew
  replace lw := lw.drew
  refine wp_region_held_drew (S := fun w' => w'.cell? ⟨w.heap.size + 1, 1, none⟩ = some (.int .i64 4)) (by kernel_rfl) (b5.cell (j := 1) rfl) (fun hHeld => ?_)
  refine wpAnyH_take (i := 1) (oi := ⟨some 37, .fieldAddr 28 (.tmp 5) 1, _, _, _, none⟩) (v := .pointer (some ⟨w.heap.size + 1, 1, none⟩)) rfl (by kernel_rfl) (by kernel_rfl) (by kernel_rfl) (fun _ _ _ h => h) (Or.inl ⟨by rfl, fun w _ => by go_simp⟩) hHeld ?_
  simp only [Act.put, List.setIfInBounds_toArray, List.set_cons_zero, List.set_cons_succ]
  refine wpAnyH_take (i := 2) (oi := ⟨some 38, .load 3 (.tmp 37), _, _, _, none⟩) (v := .int .i64 4) rfl (by kernel_rfl) (by kernel_rfl) (by kernel_rfl) (fun _ _ _ h => h) (Or.inl ⟨by rfl, fun w hSw => by have e1 := hSw; clear hSw; go_simp⟩) hHeld ?_
  simp only [Act.put, List.setIfInBounds_toArray, List.set_cons_zero, List.set_cons_succ]
  refine wpAnyH_ready (rs := [0]) (by kernel_rfl) (by simp) (AllReadyH.cons (o := ⟨some 36, .call { callee := .value (.func 29), args := #[.tmp 9], argTypes := #[60] }, _, _, _, none⟩) rfl (fun K' hK => ?_) (AllReadyH.nil))
  go_simp
  refine (KR.out _).mono ?_
  rintro e v3 ⟨rfl, hmp, l3⟩
  replace b3 := b3.keep l3
  replace b5 := b5.keep l3
  replace b6 := b6.keep l3
  replace b9 := b9.keep l3
  replace lw := Later.trans_ lw l3
  have hlk := HL.out v2.heap.size _ _ hmp
  clear hmp l3
  refine hK.out _ _ (b5.cell (j := 1) rfl) (fun hHeld => ?_)
  clear hK K'
  try simp only [Act.put, List.setIfInBounds_toArray, List.set_cons_zero, List.set_cons_succ]
  refine wpAnyH_ready (rs := [3]) (by kernel_rfl) (by simp) (AllReadyH.cons (o := ⟨some 39, .lookup 67 (.tmp 36) (.tmp 38) true, _, _, _, none⟩) rfl (fun K' hK => ?_) (AllReadyH.nil))
  go_simp
  clear hlk
  refine hK.out _ _ (b5.cell (j := 1) rfl) (fun hHeld => ?_)
  clear hK K'
  try simp only [Act.put, List.setIfInBounds_toArray, List.set_cons_zero, List.set_cons_succ]
  refine wpAnyH_take (i := 4) (oi := ⟨some 35, .move (.tmp 39), _, _, _, none⟩) (v := (.tuple #[.func (.func 45) #[pA w1.heap.size] #[], .bool true])) rfl (by kernel_rfl) (by kernel_rfl) (by kernel_rfl) (fun _ _ _ h => h) (Or.inl ⟨by rfl, fun _ _ => rfl⟩) hHeld ?_
  simp only [Act.put, List.setIfInBounds_toArray, List.set_cons_zero, List.set_cons_succ]
  refine wpAnyH_take (i := 5) (oi := ⟨some 40, .extract (.tmp 35) 0, _, _, _, none⟩) (v := .func (.func 45) #[pA w1.heap.size] #[]) rfl (by kernel_rfl) (by kernel_rfl) (by kernel_rfl) (fun _ _ _ h => h) (Or.inl ⟨by rfl, fun w _ => by go_simp⟩) hHeld ?_
  simp only [Act.put, List.setIfInBounds_toArray, List.set_cons_zero, List.set_cons_succ]
  refine wpAnyH_take (i := 6) (oi := ⟨some 41, .extract (.tmp 35) 1, _, _, _, none⟩) (v := .bool true) rfl (by kernel_rfl) (by kernel_rfl) (by kernel_rfl) (fun _ _ _ h => h) (Or.inl ⟨by rfl, fun w _ => by go_simp⟩) hHeld ?_
  simp only [Act.put, List.setIfInBounds_toArray, List.set_cons_zero, List.set_cons_succ]
  refine wpAnyH_take (i := 7) (oi := ⟨some 12, .assign (.tmp 40), _, _, _, none⟩) (v := .func (.func 45) #[pA w1.heap.size] #[]) rfl (by kernel_rfl) (by kernel_rfl) (by kernel_rfl) (fun _ _ _ h => h) (Or.inl ⟨by rfl, fun _ _ => rfl⟩) hHeld ?_
  simp only [Act.put, List.setIfInBounds_toArray, List.set_cons_zero, List.set_cons_succ]
  refine wpAnyH_take (i := 8) (oi := ⟨some 13, .assign (.tmp 41), _, _, _, none⟩) (v := .bool true) rfl (by kernel_rfl) (by kernel_rfl) (by kernel_rfl) (fun _ _ _ h => h) (Or.inl ⟨by rfl, fun _ _ => rfl⟩) hHeld ?_
  simp only [Act.put, List.setIfInBounds_toArray, List.set_cons_zero, List.set_cons_succ]
  refine wpAnyH_done (by kernel_rfl) ?_ _
  clear hHeld
  have e2 := b5.cell (j := 2) (v := .int .u32 v) rfl
  go_wp2_with (first
    | (go_at_call 45; (with_reducible refine (KM.out _ _ b9).mono ?_); rintro e v4 ⟨rfl, b9n, l4⟩; clear e2; replace b3 := b3.later l4 (by omega); replace b5 := b5.later l4 (by omega); replace b6 := b6.later l4 (by omega); replace lw := Below.trans lw (l4.mono (by omega)))
    | ((with_reducible refine wpList_load_at (o := ⟨some 48, .load 26 (.tmp 47), _, _, _, none⟩) rfl _ _ rfl w1.heap.size 0 14 60 (Acs Y k) Y.cells _ ?_ ?_ (as_drop Y k) Try.underlying26 rfl (ctl_sz _) ?_); rfl; exact b9n)
    | ((with_reducible refine wpList_store_abs (o := ⟨none, .store 26 (.tmp 6) (.tmp 48), _, _, _, none⟩) rfl _ _ _ rfl (w.heap.size + 1 + 1) 26 zK.cells Y.cells ?_ ?_ ?_ ?_ ?_ ?_ ?_); rfl; rfl; exact b6; exact ctl_sz _; rfl; exact ctl_one _; intro w9 b8 o9))
  exact bodyPost_ret (ctl_ret3 Try.results12 _ _ (w.heap.size + 1 + 1) Y (.int .u32 0) (.int .i64 0) rfl rfl rfl b8) rfl ⟨rfl, Below.only lw o9 (by omega)⟩
set_option maxRecDepth 100000 in
set_option maxHeartbeats 2000000 in
theorem port_outX (x : Ctl) (k : Nat) (p : Int) (v : Int) (w : World) (hx : x.Ok) (_ : x.wf) (hk : (k : Int) < x.n) (_ : Tm.isE v) (h0 : p ≠ 0) (h2 : p ≠ 2) (h3 : p ≠ 3) (h4 : p ≠ 4) :
    Calls Try.prog 12 #[.agg x.cells.toArray, .int .i64 (k : Int), .agg #[.bool false, .int .i64 p, .int .u32 v]] w fun e w' => e = .returned (.tuple #[.agg x.cells.toArray, .int .u32 0, .int .i64 5]) ∧ Later w w' := by
  have hn4 := hx.n4
  have hk0 : (0 : Int) ≤ k := by omega
  have KH := Lib.hid fun w' => has_any x k w' hn4
  rw [decide_eq_true ⟨hk0, hk⟩] at KH
  have b3 := ((Blk.new w 26 x.cells.toArray x.cells rfl).alloc (.cells (ioC false p v).toArray 28)).alloc (.cells zK.cells.toArray 26)
  have b5 := (Blk.new' (w.alloc (.cells x.cells.toArray 26)) (w.heap.size + 1) 28 (ioC false p v).toArray (ioC false p v) (by simp) rfl).alloc (.cells zK.cells.toArray 26)
  have b6 := Blk.new' ((w.alloc (.cells x.cells.toArray 26)).alloc (.cells (ioC false p v).toArray 28)) (w.heap.size + 1 + 1) 26 zK.cells.toArray zK.cells (by simp) rfl
  have lw := ((later1 w (.cells x.cells.toArray 26)).alloc (by simp) (.cells (ioC false p v).toArray 28)).alloc (by simp; omega) (.cells zK.cells.toArray 26)
  clear hx
  go_enter Try.func12, Try.ntmps12
  go_upto_region 1 with fail
  obtain ⟨u0, hu⟩ : ∃ u0, ((w.alloc (.cells x.cells.toArray 26)).alloc (.cells (ioC false p v).toArray 28)).alloc (.cells zK.cells.toArray 26) = u0 := ⟨_, rfl⟩
  rw [hu] at b3 b5 b6 lw
  have hu2 : ((w.alloc (.cells x.cells.toArray 26)).alloc (.cells #[.bool false, .int .i64 p, .int .u32 v] 28)).alloc (.cells #[.int .i64 0, .int .u32 0, .int .u32 0, .int .u32 0, .int .u32 0, .int .u32 0, .int .u32 0, .int .u32 0, .int .u32 0, .int .i64 0, .int .i64 0, .int .i64 0, .int .i64 0, .int .i64 0] 26) = u0 := hu
  rw [hu2]
  clear hu hu2
  go_upto_region 4 with (first
    | ((with_reducible refine wpList_load_blk (o := ⟨some 14, .load 26 (.tmp 3), _, _, _, none⟩) rfl _ _ rfl w.heap.size 26 x.cells _ ?_ ?_ Try.underlying26 rfl (ctl_sz _) ?_); rfl; exact b3)
    | ((with_reducible refine wpList_load_blk (o := ⟨some 19, .load 26 (.tmp 3), _, _, _, none⟩) rfl _ _ rfl w.heap.size 26 x.cells _ ?_ ?_ Try.underlying26 rfl (ctl_sz _) ?_); rfl; exact b3)
    | (go_at_call 26; (with_reducible refine (KH.out _).mono ?_); rintro e w1 ⟨rfl, l1⟩; replace b3 := b3.keep l1; replace b5 := b5.keep l1; replace b6 := b6.keep l1; replace lw := Later.trans_ lw l1; have hlt : w.heap.size + 1 + 1 < w1.heap.size := b6.lt)
    | ((with_reducible refine wpList_bld (o := ⟨some 21, .build 60 #[(0, .tmp 19), (1, .tmp 20)], _, _, _, none⟩) rfl _ #[(0, .tmp 19), (1, .tmp 20)] #[(0, .agg x.cells.toArray), (1, .int .i64 (k : Int))] (Acs x k).toArray rfl ?_ (run_as x k _) ?_); rfl)
    | ((with_reducible refine wpList_store_abs (o := ⟨none, .store 60 (.tmp 9) (.tmp 21), _, _, _, none⟩) rfl _ _ _ rfl w1.heap.size 60 (Acs zK 0) (Acs x k) ?_ ?_ ?_ ?_ ?_ ?_ ?_); rfl; rfl; exact (Blk.new _ _ _ _ rfl); exact as_sz _ _; rfl; exact as_one _ _; intro v2 b9 o2; replace b3 := (b3.alloc (.cells (Acs zK 0).toArray 60)).only o2 (Nat.ne_of_lt b3.lt); replace b5 := (b5.alloc (.cells (Acs zK 0).toArray 60)).only o2 (Nat.ne_of_lt b5.lt); replace b6 := (b6.alloc (.cells (Acs zK 0).toArray 60)).only o2 (Nat.ne_of_lt b6.lt); replace lw := Below.only (lw.alloc lw.size (.cells (Acs zK 0).toArray 60)) o2 lw.size))
  have e0 := b5.cell (j := 0) (v := .bool false) rfl
  go_upto_region 8 with fail
  clear e0
  have KR := Lib.hid fun w' => wt_any w1.heap.size w'
  have HL := Lib.hid (wt_at (pA w1.heap.size) p (.nilFunc) false (by unfold wtV; simp [h0, h2, h3, h4]) (by unfold wtB; simp [h0, h2, h3, h4]))
  replace b3 := b3.drew
  replace b5 := b5.drew
  replace b6 := b6.drew
  replace b9 := b9.drew
  replace lw := lw.drew
  refine wp_region_held_drew (S := fun w' => w'.cell? ⟨w.heap.size + 1, 1, none⟩ = some (.int .i64 p)) (by kernel_rfl) (b5.cell (j := 1) rfl) (fun hHeld => ?_)
  refine wpAnyH_take (i := 1) (oi := ⟨some 37, .fieldAddr 28 (.tmp 5) 1, _, _, _, none⟩) (v := .pointer (some ⟨w.heap.size + 1, 1, none⟩)) rfl (by kernel_rfl) (by kernel_rfl) (by kernel_rfl) (fun _ _ _ h => h) (Or.inl ⟨by rfl, fun w _ => by go_simp⟩) hHeld ?_
  simp only [Act.put, List.setIfInBounds_toArray, List.set_cons_zero, List.set_cons_succ]
  refine wpAnyH_take (i := 2) (oi := ⟨some 38, .load 3 (.tmp 37), _, _, _, none⟩) (v := .int .i64 p) rfl (by kernel_rfl) (by kernel_rfl) (by kernel_rfl) (fun _ _ _ h => h) (Or.inl ⟨by rfl, fun w hSw => by have e1 := hSw; clear hSw; go_simp⟩) hHeld ?_
  simp only [Act.put, List.setIfInBounds_toArray, List.set_cons_zero, List.set_cons_succ]
  refine wpAnyH_ready (rs := [0]) (by kernel_rfl) (by simp) (AllReadyH.cons (o := ⟨some 36, .call { callee := .value (.func 29), args := #[.tmp 9], argTypes := #[60] }, _, _, _, none⟩) rfl (fun K' hK => ?_) (AllReadyH.nil))
  go_simp
  refine (KR.out _).mono ?_
  rintro e v3 ⟨rfl, hmp, l3⟩
  replace b3 := b3.keep l3
  replace b5 := b5.keep l3
  replace b6 := b6.keep l3
  replace b9 := b9.keep l3
  replace lw := Later.trans_ lw l3
  have hlk := HL.out v2.heap.size _ _ hmp
  clear hmp l3
  refine hK.out _ _ (b5.cell (j := 1) rfl) (fun hHeld => ?_)
  clear hK K'
  try simp only [Act.put, List.setIfInBounds_toArray, List.set_cons_zero, List.set_cons_succ]
  refine wpAnyH_ready (rs := [3]) (by kernel_rfl) (by simp) (AllReadyH.cons (o := ⟨some 39, .lookup 67 (.tmp 36) (.tmp 38) true, _, _, _, none⟩) rfl (fun K' hK => ?_) (AllReadyH.nil))
  go_simp
  clear hlk
  refine hK.out _ _ (b5.cell (j := 1) rfl) (fun hHeld => ?_)
  clear hK K'
  try simp only [Act.put, List.setIfInBounds_toArray, List.set_cons_zero, List.set_cons_succ]
  refine wpAnyH_take (i := 4) (oi := ⟨some 35, .move (.tmp 39), _, _, _, none⟩) (v := (.tuple #[.nilFunc, .bool false])) rfl (by kernel_rfl) (by kernel_rfl) (by kernel_rfl) (fun _ _ _ h => h) (Or.inl ⟨by rfl, fun _ _ => rfl⟩) hHeld ?_
  simp only [Act.put, List.setIfInBounds_toArray, List.set_cons_zero, List.set_cons_succ]
  refine wpAnyH_take (i := 5) (oi := ⟨some 40, .extract (.tmp 35) 0, _, _, _, none⟩) (v := .nilFunc) rfl (by kernel_rfl) (by kernel_rfl) (by kernel_rfl) (fun _ _ _ h => h) (Or.inl ⟨by rfl, fun w _ => by go_simp⟩) hHeld ?_
  simp only [Act.put, List.setIfInBounds_toArray, List.set_cons_zero, List.set_cons_succ]
  refine wpAnyH_take (i := 6) (oi := ⟨some 41, .extract (.tmp 35) 1, _, _, _, none⟩) (v := .bool false) rfl (by kernel_rfl) (by kernel_rfl) (by kernel_rfl) (fun _ _ _ h => h) (Or.inl ⟨by rfl, fun w _ => by go_simp⟩) hHeld ?_
  simp only [Act.put, List.setIfInBounds_toArray, List.set_cons_zero, List.set_cons_succ]
  refine wpAnyH_take (i := 7) (oi := ⟨some 12, .assign (.tmp 40), _, _, _, none⟩) (v := .nilFunc) rfl (by kernel_rfl) (by kernel_rfl) (by kernel_rfl) (fun _ _ _ h => h) (Or.inl ⟨by rfl, fun _ _ => rfl⟩) hHeld ?_
  simp only [Act.put, List.setIfInBounds_toArray, List.set_cons_zero, List.set_cons_succ]
  refine wpAnyH_take (i := 8) (oi := ⟨some 13, .assign (.tmp 41), _, _, _, none⟩) (v := .bool false) rfl (by kernel_rfl) (by kernel_rfl) (by kernel_rfl) (fun _ _ _ h => h) (Or.inl ⟨by rfl, fun _ _ => rfl⟩) hHeld ?_
  simp only [Act.put, List.setIfInBounds_toArray, List.set_cons_zero, List.set_cons_succ]
  refine wpAnyH_done (by kernel_rfl) ?_ _
  clear hHeld
  go_wp2_with (first
    | ((with_reducible refine wpList_load_blk (o := ⟨some 49, .load 26 (.tmp 3), _, _, _, none⟩) rfl _ _ rfl w.heap.size 26 x.cells _ ?_ ?_ Try.underlying26 rfl (ctl_sz _) ?_); rfl; exact b3)
    | ((with_reducible refine wpList_store_abs (o := ⟨none, .store 26 (.tmp 6) (.tmp 49), _, _, _, none⟩) rfl _ _ _ rfl (w.heap.size + 1 + 1) 26 zK.cells x.cells ?_ ?_ ?_ ?_ ?_ ?_ ?_); rfl; rfl; exact b6; exact ctl_sz _; rfl; exact ctl_one _; intro w9 b8 o9))
  exact bodyPost_ret (ctl_ret3 Try.results12 _ _ (w.heap.size + 1 + 1) x (.int .u32 0) (.int .i64 5) rfl rfl rfl b8) rfl ⟨rfl, Below.only lw o9 (by omega)⟩
/-- Port: what a processor asks. -/
theorem port_any (x : Ctl) (k : Nat) (inn : Bool) (p v : Int) (w : World) (hx : x.Ok) (hw : x.wf) (hk : (k : Int) < x.n) (hv : Tm.isE v) :
    Calls Try.prog 12 #[.agg x.cells.toArray, .int .i64 (k : Int), .agg #[.bool inn, .int .i64 p, .int .u32 v]] w fun e w' => e = .returned (.tuple #[.agg (x.port k inn p v).cells.toArray, .int .u32 (x.val k inn p), .int .i64 (pErr inn p)]) ∧ Later w w' := by
  cases inn with
  | true =>
    by_cases h0 : p = 0
    · subst h0; exact port_in0 x k v w hx hw hk hv
    by_cases h1 : p = 1
    · subst h1; exact port_in1 x k v w hx hw hk hv
    have h := port_inX x k p v w hx hw hk hv h0 h1
    have e1 : x.val k true p = 0 := by unfold Ctl.val; simp [h0, h1]
    have e2 : pErr true p = 5 := by unfold pErr; simp [h0, h1]
    rw [e1, e2]
    exact h
  | false =>
    by_cases h0 : p = 0
    · subst h0; exact port_out0 x k v w hx hw hk hv
    by_cases h2 : p = 2
    · subst h2; exact port_out2 x k v w hx hw hk hv
    by_cases h3 : p = 3
    · subst h3; exact port_out3 x k v w hx hw hk hv
    by_cases h4 : p = 4
    · subst h4; exact port_out4 x k v w hx hw hk hv
    have h := port_outX x k p v w hx hw hk hv h0 h2 h3 h4
    have e1 : x.out k p v = x := by unfold Ctl.out; simp [h0, h2, h3, h4]
    have e2 : pErr false p = 5 := by unfold pErr; simp [h0, h2, h3, h4]
    show Calls _ _ _ _ fun e w' => e = .returned (.tuple #[.agg (x.out k p v).cells.toArray, .int .u32 0, .int .i64 (pErr false p)]) ∧ Later w w'
    rw [e1, e2]
    exact h
end Go.Proofs.Ytkpigonlnabmdab
