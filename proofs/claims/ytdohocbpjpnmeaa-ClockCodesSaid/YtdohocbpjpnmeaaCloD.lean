/-
  A CLOCK: Offer, Read, Set, Fire.
-/
import Derived.Test.YtdohocbpjpnmeaaCloC
import Derived.Deep.RegionHeld
namespace Go.Proofs.Ytdohocbpjpnmeaa
open Go.RowKit Go.ChangeShapes Go.WideShapes Go.ChangeAt

theorem results_cell_tmp {P : Program} {fn : Func} {p q : Tmp} {ty : TypeId} (h : fn.results = #[.cell p ty, .tmp q]) (tmps : Array Value) (w : World) (g : Nat) (t : TypeId) (cs : List Value) (v : Value) (d : TypeDesc)
    (hp : tmps.getD p undef = .pointer (some ⟨g, 0, none⟩)) (hq : tmps.getD q undef = v) (hg : Blk w g t cs)
    (hu : P.underlying ty = some d) (hd : (match d with | .struct _ | .array _ _ => true | _ => false) = true) (hi : (P.info? ty).map (·.size) = some cs.length) :
    (results fn tmps).run P w = .ok (.tuple #[.agg cs.toArray, v]) w := by
  have hp' : tmps[p]?.getD undef = .pointer (some ⟨g, 0, none⟩) := by simpa using hp
  have hq' : tmps[q]?.getD undef = v := by simpa using hq
  simp [results, h, hp', hq', asAddr, run_loadVar_row w g t ty cs.toArray (0, 0) d hg hu hd (by rw [List.size_toArray]; exact hi)]
theorem results_c2 {P : Program} {fn : Func} {p q r : Tmp} {ty : TypeId} (h : fn.results = #[.cell p ty, .tmp q, .tmp r]) (tmps : Array Value) (w : World) (g : Nat) (t : TypeId) (cs : List Value) (v u : Value) (d : TypeDesc)
    (hp : tmps.getD p undef = .pointer (some ⟨g, 0, none⟩)) (hq : tmps.getD q undef = v) (hr : tmps.getD r undef = u) (hg : Blk w g t cs)
    (hu : P.underlying ty = some d) (hd : (match d with | .struct _ | .array _ _ => true | _ => false) = true) (hi : (P.info? ty).map (·.size) = some cs.length) :
    (results fn tmps).run P w = .ok (.tuple #[.agg cs.toArray, v, u]) w := by
  have hp' : tmps[p]?.getD undef = .pointer (some ⟨g, 0, none⟩) := by simpa using hp
  have hq' : tmps[q]?.getD undef = v := by simpa using hq
  have hr' : tmps[r]?.getD undef = u := by simpa using hr
  simp [results, h, hp', hq', hr', asAddr, run_loadVar_row w g t ty cs.toArray (0, 0) d hg hu hd (by rw [List.size_toArray]; exact hi)]
theorem clk_ret2 {fn : Func} {p q : Tmp} (h : fn.results = #[.cell p 25, .tmp q]) (tmps : Array Value) (w : World) (B : Nat) (x : Clk) (v : Value) (hp : tmps.getD p undef = .pointer (some ⟨B, 0, none⟩)) (hq : tmps.getD q undef = v) (hb : Blk w B 25 x.cells) :
    (results fn tmps).run Try.prog w = .ok (.tuple #[.agg x.cells.toArray, v]) w :=
  results_cell_tmp h tmps w B 25 x.cells v _ hp hq hb Try.underlying25 rfl (clk_sz _)
theorem clk_ret3 {fn : Func} {p q r : Tmp} (h : fn.results = #[.cell p 25, .tmp q, .tmp r]) (tmps : Array Value) (w : World) (B : Nat) (x : Clk) (v u : Value) (hp : tmps.getD p undef = .pointer (some ⟨B, 0, none⟩)) (hq : tmps.getD q undef = v) (hr : tmps.getD r undef = u) (hb : Blk w B 25 x.cells) :
    (results fn tmps).run Try.prog w = .ok (.tuple #[.agg x.cells.toArray, v, u]) w :=
  results_c2 h tmps w B 25 x.cells v u _ hp hq hr hb Try.underlying25 rfl (clk_sz _)
set_option maxRecDepth 100000 in
set_option maxHeartbeats 4000000 in
theorem offer_any (x : Clk) (c t : Int) (w : World) : Calls Try.prog 13 #[.agg x.cells.toArray, .int .i64 c, .int .i64 t] w fun e w' => e = .returned (.tuple #[.agg (x.offerC c t).cells.toArray, .int .i64 (x.offerE c t)]) ∧ Later w w' := by
  have b3 := (Blk.new w 25 x.cells.toArray x.cells rfl).alloc (.cells zK.cells.toArray 25)
  have b6 := Blk.new' (w.alloc (.cells x.cells.toArray 25)) (w.heap.size + 1) 25 zK.cells.toArray zK.cells (by simp) rfl
  have lw := (later1 w (.cells x.cells.toArray 25)).alloc (by simp) (.cells zK.cells.toArray 25)
  by_cases h0 : x.offerE c t = 0
  · obtain ⟨h1, h2, h3, h4⟩ := offer_0 h0
    obtain ⟨k, rfl, hk⟩ := isC_open h1
    have KC := Lib.hid fun w' => isCPU_any (k : Int) w'
    have KT := Lib.hid fun w' => isTime_any t w'
    have KO := Lib.hid fun w' => isOffered_any x (k : Int) w'
    have KF := Lib.hid fun (B : Nat) w' (h : Blk w' B 66 (faultC [(!isC (k : Int), 1), (!isT t, 7), (decide (t < x.l), 9), (x.off (k : Int), 4)])) => (show Calls Try.prog 32 #[.slice (some ⟨B, 0, none⟩) 4 4] w' fun e w'' => e = .returned (.int .i64 (x.offerE (k : Int) t)) ∧ Later w' w'' from first_any _ 4 B w' rfl (by omega) h)
    rw [show x.offerC (k : Int) t = ({ x with l := t, o := upd x.o k true, r := upd x.r k t } : Clk) from by unfold Clk.offerC; rw [if_pos h0, Int.toNat_natCast], h0]
    rw [h0] at KF
    have hk4 : (k : Int) < 4 := by omega
    have hk0 : (0 : Int) ≤ k := by omega
    clear h0 h1 h2 h3 h4
    go_enter Try.func13, Try.ntmps13
    go_upto_region 1 with fail
    obtain ⟨u0, hu⟩ : ∃ u0, (w.alloc (.cells x.cells.toArray 25)).alloc (.cells zK.cells.toArray 25) = u0 := ⟨_, rfl⟩
    rw [hu] at b3 b6 lw
    have hu2 : (w.alloc (.cells x.cells.toArray 25)).alloc (.cells #[.int .i64 0, .bool false, .bool false, .bool false, .bool false, .int .i64 0, .int .i64 0, .int .i64 0, .int .i64 0, .int .i64 0, .int .i64 0, .int .i64 0, .int .i64 0] 25) = u0 := hu
    rw [hu2]
    clear hu hu2
    replace b3 := b3.drew
    replace b6 := b6.drew
    replace lw := lw.drew
    refine wp_region_held_drew (S := fun w' => World.rangeAt w' w.heap.size 0 x.cells ∧ w'.cell? ⟨w.heap.size, 0, none⟩ = some (.int .i64 x.l)) (by kernel_rfl) ⟨(show World.rangeAt _ w.heap.size 0 x.cells from b3.range 0 13), b3.cell (clk_l x)⟩ (fun hHeld => ?_)
    refine wpAnyH_take (i := 0) (oi := ⟨some 9, .move (.tmp 1), _, _, _, none⟩) (v := .int .i64 (k : Int)) rfl (by kernel_rfl) (by kernel_rfl) (by kernel_rfl) (fun _ _ _ h => h) (Or.inl ⟨by rfl, fun _ _ => rfl⟩) hHeld ?_
    simp only [Act.put, List.setIfInBounds_toArray, List.set_cons_zero, List.set_cons_succ]
    refine wpAnyH_take (i := 4) (oi := ⟨some 13, .move (.tmp 2), _, _, _, none⟩) (v := .int .i64 t) rfl (by kernel_rfl) (by kernel_rfl) (by kernel_rfl) (fun _ _ _ h => h) (Or.inl ⟨by rfl, fun _ _ => rfl⟩) hHeld ?_
    simp only [Act.put, List.setIfInBounds_toArray, List.set_cons_zero, List.set_cons_succ]
    refine wpAnyH_take (i := 8) (oi := ⟨some 17, .move (.tmp 2), _, _, _, none⟩) (v := .int .i64 t) rfl (by kernel_rfl) (by kernel_rfl) (by kernel_rfl) (fun _ _ _ h => h) (Or.inl ⟨by rfl, fun _ _ => rfl⟩) hHeld ?_
    simp only [Act.put, List.setIfInBounds_toArray, List.set_cons_zero, List.set_cons_succ]
    refine wpAnyH_take (i := 9) (oi := ⟨some 18, .fieldAddr 25 (.tmp 3) 0, _, _, _, none⟩) (v := .pointer (some ⟨w.heap.size, 0, none⟩)) rfl (by kernel_rfl) (by kernel_rfl) (by kernel_rfl) (fun _ _ _ h => h) (Or.inl ⟨by rfl, fun w _ => by go_simp⟩) hHeld ?_
    simp only [Act.put, List.setIfInBounds_toArray, List.set_cons_zero, List.set_cons_succ]
    refine wpAnyH_take (i := 10) (oi := ⟨some 19, .load 3 (.tmp 18), _, _, _, none⟩) (v := .int .i64 x.l) rfl (by kernel_rfl) (by kernel_rfl) (by kernel_rfl) (fun _ _ _ h => h) (Or.inl ⟨by rfl, fun w hSw => by have e1 := hSw.2; clear hSw; go_simp⟩) hHeld ?_
    simp only [Act.put, List.setIfInBounds_toArray, List.set_cons_zero, List.set_cons_succ]
    refine wpAnyH_take (i := 11) (oi := ⟨some 20, .binOp .lss 3 (.tmp 17) (.tmp 19) 3, _, _, _, none⟩) (v := .bool (decide (t < x.l))) rfl (by kernel_rfl) (by kernel_rfl) (by kernel_rfl) (fun _ _ _ h => h) (Or.inl ⟨by rfl, fun w _ => by go_simp⟩) hHeld ?_
    simp only [Act.put, List.setIfInBounds_toArray, List.set_cons_zero, List.set_cons_succ]
    refine wpAnyH_take (i := 12) (oi := ⟨some 21, .build 66 #[(0, .tmp 20), (1, .const (.int .i64 9))], _, _, _, none⟩) (v := .agg #[.bool (decide (t < x.l)), .int .i64 9]) rfl (by kernel_rfl) (by kernel_rfl) (by kernel_rfl) (fun _ _ _ h => h) (yieldsIf_build (by rfl) _ _ #[(0, .bool (decide (t < x.l))), (1, .int .i64 9)] _ rfl rfl (run_flt _ _)) hHeld ?_
    simp only [Act.put, List.setIfInBounds_toArray, List.set_cons_zero, List.set_cons_succ]
    refine wpAnyH_take (i := 13) (oi := ⟨some 22, .load 25 (.tmp 3), _, _, _, none⟩) (v := .agg x.cells.toArray) rfl (by kernel_rfl) (by kernel_rfl) (by kernel_rfl) (fun _ _ _ h => h) (yieldsIf_load_mid (by rfl) _ _ rfl _ _ rfl x.cells _ (fun w h => h.1) Try.underlying25 rfl (clk_sz _)) hHeld ?_
    simp only [Act.put, List.setIfInBounds_toArray, List.set_cons_zero, List.set_cons_succ]
    refine wpAnyH_take (i := 14) (oi := ⟨some 23, .move (.tmp 1), _, _, _, none⟩) (v := .int .i64 (k : Int)) rfl (by kernel_rfl) (by kernel_rfl) (by kernel_rfl) (fun _ _ _ h => h) (Or.inl ⟨by rfl, fun _ _ => rfl⟩) hHeld ?_
    simp only [Act.put, List.setIfInBounds_toArray, List.set_cons_zero, List.set_cons_succ]
    refine wpAnyH_ready (rs := [1]) (by kernel_rfl) (by simp) (AllReadyH.cons (o := ⟨some 10, .call { callee := .value (.func 33), args := #[.tmp 9], argTypes := #[3] }, _, _, _, none⟩) rfl (fun K' hK => ?_) (AllReadyH.nil))
    go_simp
    refine (KC.out _).mono ?_
    rintro e v1 ⟨rfl, rfl⟩
    refine hK.out _ _ ⟨(show World.rangeAt _ w.heap.size 0 x.cells from b3.range 0 13), b3.cell (clk_l x)⟩ (fun hHeld => ?_)
    clear hK K'
    try simp only [Act.put, List.setIfInBounds_toArray, List.set_cons_zero, List.set_cons_succ]
    refine wpAnyH_take (i := 2) (oi := ⟨some 11, .unOp .not 4 (.tmp 10), _, _, _, none⟩) (v := .bool (!isC (k : Int))) rfl (by kernel_rfl) (by kernel_rfl) (by kernel_rfl) (fun _ _ _ h => h) (Or.inl ⟨by rfl, fun w _ => by go_simp⟩) hHeld ?_
    simp only [Act.put, List.setIfInBounds_toArray, List.set_cons_zero, List.set_cons_succ]
    refine wpAnyH_take (i := 3) (oi := ⟨some 12, .build 66 #[(0, .tmp 11), (1, .const (.int .i64 1))], _, _, _, none⟩) (v := .agg #[.bool (!isC (k : Int)), .int .i64 1]) rfl (by kernel_rfl) (by kernel_rfl) (by kernel_rfl) (fun _ _ _ h => h) (yieldsIf_build (by rfl) _ _ #[(0, .bool (!isC (k : Int))), (1, .int .i64 1)] _ rfl rfl (run_flt _ _)) hHeld ?_
    simp only [Act.put, List.setIfInBounds_toArray, List.set_cons_zero, List.set_cons_succ]
    refine wpAnyH_ready (rs := [5]) (by kernel_rfl) (by simp) (AllReadyH.cons (o := ⟨some 14, .call { callee := .value (.func 29), args := #[.tmp 13], argTypes := #[3] }, _, _, _, none⟩) rfl (fun K' hK => ?_) (AllReadyH.nil))
    go_simp
    refine (KT.out _).mono ?_
    rintro e v2 ⟨rfl, rfl⟩
    refine hK.out _ _ ⟨(show World.rangeAt _ w.heap.size 0 x.cells from b3.range 0 13), b3.cell (clk_l x)⟩ (fun hHeld => ?_)
    clear hK K'
    try simp only [Act.put, List.setIfInBounds_toArray, List.set_cons_zero, List.set_cons_succ]
    refine wpAnyH_take (i := 6) (oi := ⟨some 15, .unOp .not 4 (.tmp 14), _, _, _, none⟩) (v := .bool (!isT t)) rfl (by kernel_rfl) (by kernel_rfl) (by kernel_rfl) (fun _ _ _ h => h) (Or.inl ⟨by rfl, fun w _ => by go_simp⟩) hHeld ?_
    simp only [Act.put, List.setIfInBounds_toArray, List.set_cons_zero, List.set_cons_succ]
    refine wpAnyH_take (i := 7) (oi := ⟨some 16, .build 66 #[(0, .tmp 15), (1, .const (.int .i64 7))], _, _, _, none⟩) (v := .agg #[.bool (!isT t), .int .i64 7]) rfl (by kernel_rfl) (by kernel_rfl) (by kernel_rfl) (fun _ _ _ h => h) (yieldsIf_build (by rfl) _ _ #[(0, .bool (!isT t)), (1, .int .i64 7)] _ rfl rfl (run_flt _ _)) hHeld ?_
    simp only [Act.put, List.setIfInBounds_toArray, List.set_cons_zero, List.set_cons_succ]
    refine wpAnyH_ready (rs := [15]) (by kernel_rfl) (by simp) (AllReadyH.cons (o := ⟨some 24, .call { callee := .value (.func 34), args := #[.tmp 22, .tmp 23], argTypes := #[25, 3] }, _, _, _, none⟩) rfl (fun K' hK => ?_) (AllReadyH.nil))
    go_simp
    (with_reducible refine (KO.out _).mono ?_)
    rintro e v3 ⟨rfl, l1⟩
    replace b3 := b3.keep l1
    replace b6 := b6.keep l1
    replace lw := Later.trans_ lw l1
    refine hK.out _ _ ⟨(show World.rangeAt _ w.heap.size 0 x.cells from b3.range 0 13), b3.cell (clk_l x)⟩ (fun hHeld => ?_)
    clear hK K'
    try simp only [Act.put, List.setIfInBounds_toArray, List.set_cons_zero, List.set_cons_succ]
    refine wpAnyH_take (i := 16) (oi := ⟨some 25, .build 66 #[(0, .tmp 24), (1, .const (.int .i64 4))], _, _, _, none⟩) (v := .agg #[.bool (x.off (k : Int)), .int .i64 4]) rfl (by kernel_rfl) (by kernel_rfl) (by kernel_rfl) (fun _ _ _ h => h) (yieldsIf_build (by rfl) _ _ #[(0, .bool (x.off (k : Int))), (1, .int .i64 4)] _ rfl rfl (run_flt _ _)) hHeld ?_
    simp only [Act.put, List.setIfInBounds_toArray, List.set_cons_zero, List.set_cons_succ]
    refine wpAnyH_ready (rs := [17]) (by kernel_rfl) (by simp) (AllReadyH.cons (o := ⟨some 26, .buildSlice 74 4 #[(0, .tmp 12), (1, .tmp 16), (2, .tmp 21), (3, .tmp 25)], _, _, _, none⟩) rfl (fun K' hK => ?_) (AllReadyH.nil))
    refine wp_bs _ _ _ #[(0, fv (!isC (k : Int)) 1), (1, fv (!isT t) 7), (2, fv (decide (t < x.l)) 9), (3, fv (x.off (k : Int)) 4)] _ rfl rfl (run_bs4 _ _ _ _ _ _ _ _ _) ?_
    have bf := Blk.new v3 66 (faultC [(!isC (k : Int), 1), (!isT t, 7), (decide (t < x.l), 9), (x.off (k : Int), 4)]).toArray (faultC [(!isC (k : Int), 1), (!isT t, 7), (decide (t < x.l), 9), (x.off (k : Int), 4)]) rfl
    replace b3 := b3.alloc (.cells (faultC [(!isC (k : Int), 1), (!isT t, 7), (decide (t < x.l), 9), (x.off (k : Int), 4)]).toArray 66)
    replace b6 := b6.alloc (.cells (faultC [(!isC (k : Int), 1), (!isT t, 7), (decide (t < x.l), 9), (x.off (k : Int), 4)]).toArray 66)
    replace lw := lw.alloc lw.size (.cells (faultC [(!isC (k : Int), 1), (!isT t, 7), (decide (t < x.l), 9), (x.off (k : Int), 4)]).toArray 66)
    refine hK.out _ _ ⟨(show World.rangeAt _ w.heap.size 0 x.cells from b3.range 0 13), b3.cell (clk_l x)⟩ (fun hHeld => ?_)
    clear hK K'
    try simp only [Act.put, List.setIfInBounds_toArray, List.set_cons_zero, List.set_cons_succ]
    refine wpAnyH_ready (rs := [18]) (by kernel_rfl) (by simp) (AllReadyH.cons (o := ⟨some 27, .call { callee := .value (.func 32), args := #[.tmp 26], argTypes := #[74] }, _, _, _, none⟩) rfl (fun K' hK => ?_) (AllReadyH.nil))
    go_simp
    (with_reducible refine (KF.out _ _ bf).mono ?_)
    rintro e v4 ⟨rfl, l1⟩
    replace b3 := b3.keep l1
    replace b6 := b6.keep l1
    replace lw := Later.trans_ lw l1
    clear bf
    refine hK.out _ _ ⟨(show World.rangeAt _ w.heap.size 0 x.cells from b3.range 0 13), b3.cell (clk_l x)⟩ (fun hHeld => ?_)
    clear hK K'
    try simp only [Act.put, List.setIfInBounds_toArray, List.set_cons_zero, List.set_cons_succ]
    refine wpAnyH_take (i := 19) (oi := ⟨some 8, .assign (.tmp 27), _, _, _, none⟩) (v := .int .i64 0) rfl (by kernel_rfl) (by kernel_rfl) (by kernel_rfl) (fun _ _ _ h => h) (Or.inl ⟨by rfl, fun _ _ => rfl⟩) hHeld ?_
    simp only [Act.put, List.setIfInBounds_toArray, List.set_cons_zero, List.set_cons_succ]
    refine wpAnyH_done (by kernel_rfl) ?_ _
    clear hHeld
    go_wp2_with (first
      | ((with_reducible refine wpList_set1 (o := ⟨none, .store 3 (.tmp 33) (.tmp 32), _, _, _, none⟩) rfl _ _ _ rfl rfl w.heap.size 0 25 x.cells (.int .i64 t) ?_ ?_ ?_ ?_ ?_ ?_ ?_); rfl; rfl; exact b3; exact i_sz; exact (show 0 < 13 by omega); rfl; intro w4 bq oq; clear b3; have b3 := bq; rw [set_l] at b3; clear bq; replace b6 := b6.only oq (by omega); replace lw := Below.only lw oq (Nat.le_refl _); clear oq)
      | ((with_reducible refine wpList_set1 (o := ⟨none, .store 4 (.tmp 38) (.const (.bool true)), _, _, _, none⟩) rfl _ _ _ rfl rfl w.heap.size (1 + k) 25 ({ x with l := t } : Clk).cells (.bool true) ?_ ?_ ?_ ?_ ?_ ?_ ?_); rfl; rfl; exact b3; exact b_sz; exact (show 1 + k < 13 by omega); rfl; intro w5 bq oq; clear b3; have b3 := bq; rw [set_o _ hk] at b3; clear bq; replace b6 := b6.only oq (by omega); replace lw := Below.only lw oq (Nat.le_refl _); clear oq)
      | ((with_reducible refine wpList_set1 (o := ⟨none, .store 3 (.tmp 40) (.tmp 36), _, _, _, none⟩) rfl _ _ _ rfl rfl w.heap.size (5 + k) 25 ({ x with l := t, o := upd x.o k true } : Clk).cells (.int .i64 t) ?_ ?_ ?_ ?_ ?_ ?_ ?_); rfl; rfl; exact b3; exact i_sz; exact (show 5 + k < 13 by omega); rfl; intro w6 bq oq; clear b3; have b3 := bq; rw [set_r _ hk] at b3; clear bq; replace b6 := b6.only oq (by omega); replace lw := Below.only lw oq (Nat.le_refl _); clear oq)
      | ((with_reducible refine wpList_load_blk (o := ⟨some 41, .load 25 (.tmp 3), _, _, _, none⟩) rfl _ _ rfl w.heap.size 25 ({ x with l := t, o := upd x.o k true, r := upd x.r k t } : Clk).cells _ ?_ ?_ Try.underlying25 rfl (clk_sz _) ?_); rfl; exact b3)
      | ((with_reducible refine wpList_store_abs (o := ⟨none, .store 25 (.tmp 6) (.tmp 41), _, _, _, none⟩) rfl _ _ _ rfl (w.heap.size + 1) 25 zK.cells ({ x with l := t, o := upd x.o k true, r := upd x.r k t } : Clk).cells ?_ ?_ ?_ ?_ ?_ ?_ ?_); rfl; rfl; exact b6; exact clk_sz _; rfl; exact clk_one _; intro w9 b9 o9))
    exact bodyPost_ret (clk_ret2 Try.results13 _ _ (w.heap.size + 1) ({ x with l := t, o := upd x.o k true, r := upd x.r k t } : Clk) (.int .i64 0) rfl rfl b9) rfl ⟨rfl, Below.only lw o9 (by omega)⟩

  · rw [show x.offerC c t = x from if_neg h0]
    have KC := Lib.hid fun w' => isCPU_any c w'
    have KT := Lib.hid fun w' => isTime_any t w'
    have KO := Lib.hid fun w' => isOffered_any x c w'
    have KF := Lib.hid fun (B : Nat) w' (h : Blk w' B 66 (faultC [(!isC c, 1), (!isT t, 7), (decide (t < x.l), 9), (x.off c, 4)])) => (show Calls Try.prog 32 #[.slice (some ⟨B, 0, none⟩) 4 4] w' fun e w'' => e = .returned (.int .i64 (x.offerE c t)) ∧ Later w' w'' from first_any _ 4 B w' rfl (by omega) h)
    obtain ⟨E, hE⟩ : ∃ E, E = x.offerE c t := ⟨_, rfl⟩
    rw [← hE] at KF h0 ⊢
    have hne : (E != 0) = true := by simpa using h0
    clear hE h0
    go_enter Try.func13, Try.ntmps13
    go_upto_region 1 with fail
    obtain ⟨u0, hu⟩ : ∃ u0, (w.alloc (.cells x.cells.toArray 25)).alloc (.cells zK.cells.toArray 25) = u0 := ⟨_, rfl⟩
    rw [hu] at b3 b6 lw
    have hu2 : (w.alloc (.cells x.cells.toArray 25)).alloc (.cells #[.int .i64 0, .bool false, .bool false, .bool false, .bool false, .int .i64 0, .int .i64 0, .int .i64 0, .int .i64 0, .int .i64 0, .int .i64 0, .int .i64 0, .int .i64 0] 25) = u0 := hu
    rw [hu2]
    clear hu hu2
    replace b3 := b3.drew
    replace b6 := b6.drew
    replace lw := lw.drew
    refine wp_region_held_drew (S := fun w' => World.rangeAt w' w.heap.size 0 x.cells ∧ w'.cell? ⟨w.heap.size, 0, none⟩ = some (.int .i64 x.l)) (by kernel_rfl) ⟨(show World.rangeAt _ w.heap.size 0 x.cells from b3.range 0 13), b3.cell (clk_l x)⟩ (fun hHeld => ?_)
    refine wpAnyH_take (i := 0) (oi := ⟨some 9, .move (.tmp 1), _, _, _, none⟩) (v := .int .i64 c) rfl (by kernel_rfl) (by kernel_rfl) (by kernel_rfl) (fun _ _ _ h => h) (Or.inl ⟨by rfl, fun _ _ => rfl⟩) hHeld ?_
    simp only [Act.put, List.setIfInBounds_toArray, List.set_cons_zero, List.set_cons_succ]
    refine wpAnyH_take (i := 4) (oi := ⟨some 13, .move (.tmp 2), _, _, _, none⟩) (v := .int .i64 t) rfl (by kernel_rfl) (by kernel_rfl) (by kernel_rfl) (fun _ _ _ h => h) (Or.inl ⟨by rfl, fun _ _ => rfl⟩) hHeld ?_
    simp only [Act.put, List.setIfInBounds_toArray, List.set_cons_zero, List.set_cons_succ]
    refine wpAnyH_take (i := 8) (oi := ⟨some 17, .move (.tmp 2), _, _, _, none⟩) (v := .int .i64 t) rfl (by kernel_rfl) (by kernel_rfl) (by kernel_rfl) (fun _ _ _ h => h) (Or.inl ⟨by rfl, fun _ _ => rfl⟩) hHeld ?_
    simp only [Act.put, List.setIfInBounds_toArray, List.set_cons_zero, List.set_cons_succ]
    refine wpAnyH_take (i := 9) (oi := ⟨some 18, .fieldAddr 25 (.tmp 3) 0, _, _, _, none⟩) (v := .pointer (some ⟨w.heap.size, 0, none⟩)) rfl (by kernel_rfl) (by kernel_rfl) (by kernel_rfl) (fun _ _ _ h => h) (Or.inl ⟨by rfl, fun w _ => by go_simp⟩) hHeld ?_
    simp only [Act.put, List.setIfInBounds_toArray, List.set_cons_zero, List.set_cons_succ]
    refine wpAnyH_take (i := 10) (oi := ⟨some 19, .load 3 (.tmp 18), _, _, _, none⟩) (v := .int .i64 x.l) rfl (by kernel_rfl) (by kernel_rfl) (by kernel_rfl) (fun _ _ _ h => h) (Or.inl ⟨by rfl, fun w hSw => by have e1 := hSw.2; clear hSw; go_simp⟩) hHeld ?_
    simp only [Act.put, List.setIfInBounds_toArray, List.set_cons_zero, List.set_cons_succ]
    refine wpAnyH_take (i := 11) (oi := ⟨some 20, .binOp .lss 3 (.tmp 17) (.tmp 19) 3, _, _, _, none⟩) (v := .bool (decide (t < x.l))) rfl (by kernel_rfl) (by kernel_rfl) (by kernel_rfl) (fun _ _ _ h => h) (Or.inl ⟨by rfl, fun w _ => by go_simp⟩) hHeld ?_
    simp only [Act.put, List.setIfInBounds_toArray, List.set_cons_zero, List.set_cons_succ]
    refine wpAnyH_take (i := 12) (oi := ⟨some 21, .build 66 #[(0, .tmp 20), (1, .const (.int .i64 9))], _, _, _, none⟩) (v := .agg #[.bool (decide (t < x.l)), .int .i64 9]) rfl (by kernel_rfl) (by kernel_rfl) (by kernel_rfl) (fun _ _ _ h => h) (yieldsIf_build (by rfl) _ _ #[(0, .bool (decide (t < x.l))), (1, .int .i64 9)] _ rfl rfl (run_flt _ _)) hHeld ?_
    simp only [Act.put, List.setIfInBounds_toArray, List.set_cons_zero, List.set_cons_succ]
    refine wpAnyH_take (i := 13) (oi := ⟨some 22, .load 25 (.tmp 3), _, _, _, none⟩) (v := .agg x.cells.toArray) rfl (by kernel_rfl) (by kernel_rfl) (by kernel_rfl) (fun _ _ _ h => h) (yieldsIf_load_mid (by rfl) _ _ rfl _ _ rfl x.cells _ (fun w h => h.1) Try.underlying25 rfl (clk_sz _)) hHeld ?_
    simp only [Act.put, List.setIfInBounds_toArray, List.set_cons_zero, List.set_cons_succ]
    refine wpAnyH_take (i := 14) (oi := ⟨some 23, .move (.tmp 1), _, _, _, none⟩) (v := .int .i64 c) rfl (by kernel_rfl) (by kernel_rfl) (by kernel_rfl) (fun _ _ _ h => h) (Or.inl ⟨by rfl, fun _ _ => rfl⟩) hHeld ?_
    simp only [Act.put, List.setIfInBounds_toArray, List.set_cons_zero, List.set_cons_succ]
    refine wpAnyH_ready (rs := [1]) (by kernel_rfl) (by simp) (AllReadyH.cons (o := ⟨some 10, .call { callee := .value (.func 33), args := #[.tmp 9], argTypes := #[3] }, _, _, _, none⟩) rfl (fun K' hK => ?_) (AllReadyH.nil))
    go_simp
    refine (KC.out _).mono ?_
    rintro e v1 ⟨rfl, rfl⟩
    refine hK.out _ _ ⟨(show World.rangeAt _ w.heap.size 0 x.cells from b3.range 0 13), b3.cell (clk_l x)⟩ (fun hHeld => ?_)
    clear hK K'
    try simp only [Act.put, List.setIfInBounds_toArray, List.set_cons_zero, List.set_cons_succ]
    refine wpAnyH_take (i := 2) (oi := ⟨some 11, .unOp .not 4 (.tmp 10), _, _, _, none⟩) (v := .bool (!isC c)) rfl (by kernel_rfl) (by kernel_rfl) (by kernel_rfl) (fun _ _ _ h => h) (Or.inl ⟨by rfl, fun w _ => by go_simp⟩) hHeld ?_
    simp only [Act.put, List.setIfInBounds_toArray, List.set_cons_zero, List.set_cons_succ]
    refine wpAnyH_take (i := 3) (oi := ⟨some 12, .build 66 #[(0, .tmp 11), (1, .const (.int .i64 1))], _, _, _, none⟩) (v := .agg #[.bool (!isC c), .int .i64 1]) rfl (by kernel_rfl) (by kernel_rfl) (by kernel_rfl) (fun _ _ _ h => h) (yieldsIf_build (by rfl) _ _ #[(0, .bool (!isC c)), (1, .int .i64 1)] _ rfl rfl (run_flt _ _)) hHeld ?_
    simp only [Act.put, List.setIfInBounds_toArray, List.set_cons_zero, List.set_cons_succ]
    refine wpAnyH_ready (rs := [5]) (by kernel_rfl) (by simp) (AllReadyH.cons (o := ⟨some 14, .call { callee := .value (.func 29), args := #[.tmp 13], argTypes := #[3] }, _, _, _, none⟩) rfl (fun K' hK => ?_) (AllReadyH.nil))
    go_simp
    refine (KT.out _).mono ?_
    rintro e v2 ⟨rfl, rfl⟩
    refine hK.out _ _ ⟨(show World.rangeAt _ w.heap.size 0 x.cells from b3.range 0 13), b3.cell (clk_l x)⟩ (fun hHeld => ?_)
    clear hK K'
    try simp only [Act.put, List.setIfInBounds_toArray, List.set_cons_zero, List.set_cons_succ]
    refine wpAnyH_take (i := 6) (oi := ⟨some 15, .unOp .not 4 (.tmp 14), _, _, _, none⟩) (v := .bool (!isT t)) rfl (by kernel_rfl) (by kernel_rfl) (by kernel_rfl) (fun _ _ _ h => h) (Or.inl ⟨by rfl, fun w _ => by go_simp⟩) hHeld ?_
    simp only [Act.put, List.setIfInBounds_toArray, List.set_cons_zero, List.set_cons_succ]
    refine wpAnyH_take (i := 7) (oi := ⟨some 16, .build 66 #[(0, .tmp 15), (1, .const (.int .i64 7))], _, _, _, none⟩) (v := .agg #[.bool (!isT t), .int .i64 7]) rfl (by kernel_rfl) (by kernel_rfl) (by kernel_rfl) (fun _ _ _ h => h) (yieldsIf_build (by rfl) _ _ #[(0, .bool (!isT t)), (1, .int .i64 7)] _ rfl rfl (run_flt _ _)) hHeld ?_
    simp only [Act.put, List.setIfInBounds_toArray, List.set_cons_zero, List.set_cons_succ]
    refine wpAnyH_ready (rs := [15]) (by kernel_rfl) (by simp) (AllReadyH.cons (o := ⟨some 24, .call { callee := .value (.func 34), args := #[.tmp 22, .tmp 23], argTypes := #[25, 3] }, _, _, _, none⟩) rfl (fun K' hK => ?_) (AllReadyH.nil))
    go_simp
    (with_reducible refine (KO.out _).mono ?_)
    rintro e v3 ⟨rfl, l1⟩
    replace b3 := b3.keep l1
    replace b6 := b6.keep l1
    replace lw := Later.trans_ lw l1
    refine hK.out _ _ ⟨(show World.rangeAt _ w.heap.size 0 x.cells from b3.range 0 13), b3.cell (clk_l x)⟩ (fun hHeld => ?_)
    clear hK K'
    try simp only [Act.put, List.setIfInBounds_toArray, List.set_cons_zero, List.set_cons_succ]
    refine wpAnyH_take (i := 16) (oi := ⟨some 25, .build 66 #[(0, .tmp 24), (1, .const (.int .i64 4))], _, _, _, none⟩) (v := .agg #[.bool (x.off c), .int .i64 4]) rfl (by kernel_rfl) (by kernel_rfl) (by kernel_rfl) (fun _ _ _ h => h) (yieldsIf_build (by rfl) _ _ #[(0, .bool (x.off c)), (1, .int .i64 4)] _ rfl rfl (run_flt _ _)) hHeld ?_
    simp only [Act.put, List.setIfInBounds_toArray, List.set_cons_zero, List.set_cons_succ]
    refine wpAnyH_ready (rs := [17]) (by kernel_rfl) (by simp) (AllReadyH.cons (o := ⟨some 26, .buildSlice 74 4 #[(0, .tmp 12), (1, .tmp 16), (2, .tmp 21), (3, .tmp 25)], _, _, _, none⟩) rfl (fun K' hK => ?_) (AllReadyH.nil))
    refine wp_bs _ _ _ #[(0, fv (!isC c) 1), (1, fv (!isT t) 7), (2, fv (decide (t < x.l)) 9), (3, fv (x.off c) 4)] _ rfl rfl (run_bs4 _ _ _ _ _ _ _ _ _) ?_
    have bf := Blk.new v3 66 (faultC [(!isC c, 1), (!isT t, 7), (decide (t < x.l), 9), (x.off c, 4)]).toArray (faultC [(!isC c, 1), (!isT t, 7), (decide (t < x.l), 9), (x.off c, 4)]) rfl
    replace b3 := b3.alloc (.cells (faultC [(!isC c, 1), (!isT t, 7), (decide (t < x.l), 9), (x.off c, 4)]).toArray 66)
    replace b6 := b6.alloc (.cells (faultC [(!isC c, 1), (!isT t, 7), (decide (t < x.l), 9), (x.off c, 4)]).toArray 66)
    replace lw := lw.alloc lw.size (.cells (faultC [(!isC c, 1), (!isT t, 7), (decide (t < x.l), 9), (x.off c, 4)]).toArray 66)
    refine hK.out _ _ ⟨(show World.rangeAt _ w.heap.size 0 x.cells from b3.range 0 13), b3.cell (clk_l x)⟩ (fun hHeld => ?_)
    clear hK K'
    try simp only [Act.put, List.setIfInBounds_toArray, List.set_cons_zero, List.set_cons_succ]
    refine wpAnyH_ready (rs := [18]) (by kernel_rfl) (by simp) (AllReadyH.cons (o := ⟨some 27, .call { callee := .value (.func 32), args := #[.tmp 26], argTypes := #[74] }, _, _, _, none⟩) rfl (fun K' hK => ?_) (AllReadyH.nil))
    go_simp
    (with_reducible refine (KF.out _ _ bf).mono ?_)
    rintro e v4 ⟨rfl, l1⟩
    replace b3 := b3.keep l1
    replace b6 := b6.keep l1
    replace lw := Later.trans_ lw l1
    clear bf
    refine hK.out _ _ ⟨(show World.rangeAt _ w.heap.size 0 x.cells from b3.range 0 13), b3.cell (clk_l x)⟩ (fun hHeld => ?_)
    clear hK K'
    try simp only [Act.put, List.setIfInBounds_toArray, List.set_cons_zero, List.set_cons_succ]
    refine wpAnyH_take (i := 19) (oi := ⟨some 8, .assign (.tmp 27), _, _, _, none⟩) (v := .int .i64 E) rfl (by kernel_rfl) (by kernel_rfl) (by kernel_rfl) (fun _ _ _ h => h) (Or.inl ⟨by rfl, fun _ _ => rfl⟩) hHeld ?_
    simp only [Act.put, List.setIfInBounds_toArray, List.set_cons_zero, List.set_cons_succ]
    refine wpAnyH_done (by kernel_rfl) ?_ _
    clear hHeld
    go_wp2_with (first
  | ((with_reducible refine wpList_load_blk (o := ⟨some 30, .load 25 (.tmp 3), _, _, _, none⟩) rfl _ _ rfl w.heap.size 25 x.cells _ ?_ ?_ Try.underlying25 rfl (clk_sz _) ?_); rfl; exact b3)
  | ((with_reducible refine wpList_store_abs (o := ⟨none, .store 25 (.tmp 6) (.tmp 30), _, _, _, none⟩) rfl _ _ _ rfl (w.heap.size + 1) 25 zK.cells x.cells ?_ ?_ ?_ ?_ ?_ ?_ ?_); rfl; rfl; exact b6; exact clk_sz _; rfl; exact clk_one _; intro w9 b9 o9))
    exact bodyPost_ret (clk_ret2 Try.results13 _ _ (w.heap.size + 1) x (.int .i64 E) rfl rfl b9) rfl ⟨rfl, Below.only lw o9 (by omega)⟩
set_option maxRecDepth 100000 in
set_option maxHeartbeats 4000000 in
theorem read_any (x : Clk) (c : Int) (w : World) : Calls Try.prog 14 #[.agg x.cells.toArray, .int .i64 c] w fun e w' => e = .returned (.tuple #[.agg (x.readC c).cells.toArray, .int .u32 (x.readV c), .int .i64 (x.readE c)]) ∧ Later w w' := by
  have b3 := (Blk.new w 25 x.cells.toArray x.cells rfl).alloc (.cells zK.cells.toArray 25)
  have b6 := Blk.new' (w.alloc (.cells x.cells.toArray 25)) (w.heap.size + 1) 25 zK.cells.toArray zK.cells (by simp) rfl
  have lw := (later1 w (.cells x.cells.toArray 25)).alloc (by simp) (.cells zK.cells.toArray 25)
  by_cases h0 : x.readE c = 0
  · obtain ⟨h1, h4⟩ := read_0 h0
    obtain ⟨k, rfl, hk⟩ := isC_open h1
    have KC := Lib.hid fun w' => isCPU_any (k : Int) w'
    have KO := Lib.hid fun w' => isOffered_any x (k : Int) w'
    have KF := Lib.hid fun (B : Nat) w' (h : Blk w' B 66 (faultC [(!isC (k : Int), 1), (!x.off (k : Int), 4)])) => (show Calls Try.prog 32 #[.slice (some ⟨B, 0, none⟩) 2 2] w' fun e w'' => e = .returned (.int .i64 (x.readE (k : Int))) ∧ Later w' w'' from first_any _ 2 B w' rfl (by omega) h)
    rw [show x.readC (k : Int) = ({ x with o := upd x.o k false, r := upd x.r k 0 } : Clk) from by unfold Clk.readC; rw [if_pos h0, Int.toNat_natCast], show x.readV (k : Int) = wr32 (x.r k) from by unfold Clk.readV; rw [if_pos h0, Int.toNat_natCast], h0]
    rw [h0] at KF
    have hk4 : (k : Int) < 4 := by omega
    have hk0 : (0 : Int) ≤ k := by omega
    obtain ⟨z, hz⟩ : ∃ z, z = wr32 (x.r k) := ⟨_, rfl⟩
    have hz1 : IntKind.u32.wrap (x.r k) = z := hz.symm
    have hz2 : x.r k % 4294967296 = z := by rw [hz]; unfold wr32; rw [IntKind.wrap_u32]
    rw [← hz]
    clear h0 h1 h4 hz
    go_enter Try.func14, Try.ntmps14
    go_upto_region 1 with fail
    obtain ⟨u0, hu⟩ : ∃ u0, (w.alloc (.cells x.cells.toArray 25)).alloc (.cells zK.cells.toArray 25) = u0 := ⟨_, rfl⟩
    rw [hu] at b3 b6 lw
    have hu2 : (w.alloc (.cells x.cells.toArray 25)).alloc (.cells #[.int .i64 0, .bool false, .bool false, .bool false, .bool false, .int .i64 0, .int .i64 0, .int .i64 0, .int .i64 0, .int .i64 0, .int .i64 0, .int .i64 0, .int .i64 0] 25) = u0 := hu
    rw [hu2]
    clear hu hu2
    replace b3 := b3.drew
    replace b6 := b6.drew
    replace lw := lw.drew
    refine wp_region_held_drew (S := fun w' => World.rangeAt w' w.heap.size 0 x.cells) (by kernel_rfl) (show World.rangeAt _ w.heap.size 0 x.cells from b3.range 0 13) (fun hHeld => ?_)
    refine wpAnyH_take (i := 0) (oi := ⟨some 9, .move (.tmp 1), _, _, _, none⟩) (v := .int .i64 (k : Int)) rfl (by kernel_rfl) (by kernel_rfl) (by kernel_rfl) (fun _ _ _ h => h) (Or.inl ⟨by rfl, fun _ _ => rfl⟩) hHeld ?_
    simp only [Act.put, List.setIfInBounds_toArray, List.set_cons_zero, List.set_cons_succ]
    refine wpAnyH_take (i := 4) (oi := ⟨some 13, .load 25 (.tmp 2), _, _, _, none⟩) (v := .agg x.cells.toArray) rfl (by kernel_rfl) (by kernel_rfl) (by kernel_rfl) (fun _ _ _ h => h) (yieldsIf_load_mid (by rfl) _ _ rfl _ _ rfl x.cells _ (fun w h => h) Try.underlying25 rfl (clk_sz _)) hHeld ?_
    simp only [Act.put, List.setIfInBounds_toArray, List.set_cons_zero, List.set_cons_succ]
    refine wpAnyH_take (i := 5) (oi := ⟨some 14, .move (.tmp 1), _, _, _, none⟩) (v := .int .i64 (k : Int)) rfl (by kernel_rfl) (by kernel_rfl) (by kernel_rfl) (fun _ _ _ h => h) (Or.inl ⟨by rfl, fun _ _ => rfl⟩) hHeld ?_
    simp only [Act.put, List.setIfInBounds_toArray, List.set_cons_zero, List.set_cons_succ]
    refine wpAnyH_ready (rs := [1]) (by kernel_rfl) (by simp) (AllReadyH.cons (o := ⟨some 10, .call { callee := .value (.func 33), args := #[.tmp 9], argTypes := #[3] }, _, _, _, none⟩) rfl (fun K' hK => ?_) (AllReadyH.nil))
    go_simp
    refine (KC.out _).mono ?_
    rintro e v1 ⟨rfl, rfl⟩
    refine hK.out _ _ (show World.rangeAt _ w.heap.size 0 x.cells from b3.range 0 13) (fun hHeld => ?_)
    clear hK K'
    try simp only [Act.put, List.setIfInBounds_toArray, List.set_cons_zero, List.set_cons_succ]
    refine wpAnyH_take (i := 2) (oi := ⟨some 11, .unOp .not 4 (.tmp 10), _, _, _, none⟩) (v := .bool (!isC (k : Int))) rfl (by kernel_rfl) (by kernel_rfl) (by kernel_rfl) (fun _ _ _ h => h) (Or.inl ⟨by rfl, fun w _ => by go_simp⟩) hHeld ?_
    simp only [Act.put, List.setIfInBounds_toArray, List.set_cons_zero, List.set_cons_succ]
    refine wpAnyH_take (i := 3) (oi := ⟨some 12, .build 66 #[(0, .tmp 11), (1, .const (.int .i64 1))], _, _, _, none⟩) (v := .agg #[.bool (!isC (k : Int)), .int .i64 1]) rfl (by kernel_rfl) (by kernel_rfl) (by kernel_rfl) (fun _ _ _ h => h) (yieldsIf_build (by rfl) _ _ #[(0, .bool (!isC (k : Int))), (1, .int .i64 1)] _ rfl rfl (run_flt _ _)) hHeld ?_
    simp only [Act.put, List.setIfInBounds_toArray, List.set_cons_zero, List.set_cons_succ]
    refine wpAnyH_ready (rs := [6]) (by kernel_rfl) (by simp) (AllReadyH.cons (o := ⟨some 15, .call { callee := .value (.func 34), args := #[.tmp 13, .tmp 14], argTypes := #[25, 3] }, _, _, _, none⟩) rfl (fun K' hK => ?_) (AllReadyH.nil))
    go_simp
    (with_reducible refine (KO.out _).mono ?_)
    rintro e v3 ⟨rfl, l1⟩
    replace b3 := b3.keep l1
    replace b6 := b6.keep l1
    replace lw := Later.trans_ lw l1
    refine hK.out _ _ (show World.rangeAt _ w.heap.size 0 x.cells from b3.range 0 13) (fun hHeld => ?_)
    clear hK K'
    try simp only [Act.put, List.setIfInBounds_toArray, List.set_cons_zero, List.set_cons_succ]
    refine wpAnyH_take (i := 7) (oi := ⟨some 16, .unOp .not 4 (.tmp 15), _, _, _, none⟩) (v := .bool (!x.off (k : Int))) rfl (by kernel_rfl) (by kernel_rfl) (by kernel_rfl) (fun _ _ _ h => h) (Or.inl ⟨by rfl, fun w _ => by go_simp⟩) hHeld ?_
    simp only [Act.put, List.setIfInBounds_toArray, List.set_cons_zero, List.set_cons_succ]
    refine wpAnyH_take (i := 8) (oi := ⟨some 17, .build 66 #[(0, .tmp 16), (1, .const (.int .i64 4))], _, _, _, none⟩) (v := .agg #[.bool (!x.off (k : Int)), .int .i64 4]) rfl (by kernel_rfl) (by kernel_rfl) (by kernel_rfl) (fun _ _ _ h => h) (yieldsIf_build (by rfl) _ _ #[(0, .bool (!x.off (k : Int))), (1, .int .i64 4)] _ rfl rfl (run_flt _ _)) hHeld ?_
    simp only [Act.put, List.setIfInBounds_toArray, List.set_cons_zero, List.set_cons_succ]
    refine wpAnyH_ready (rs := [9]) (by kernel_rfl) (by simp) (AllReadyH.cons (o := ⟨some 18, .buildSlice 74 2 #[(0, .tmp 12), (1, .tmp 17)], _, _, _, none⟩) rfl (fun K' hK => ?_) (AllReadyH.nil))
    refine wp_bs _ _ _ #[(0, fv (!isC (k : Int)) 1), (1, fv (!x.off (k : Int)) 4)] _ rfl rfl (run_bs2 _ _ _ _ _) ?_
    have bf := Blk.new v3 66 (faultC [(!isC (k : Int), 1), (!x.off (k : Int), 4)]).toArray (faultC [(!isC (k : Int), 1), (!x.off (k : Int), 4)]) rfl
    replace b3 := b3.alloc (.cells (faultC [(!isC (k : Int), 1), (!x.off (k : Int), 4)]).toArray 66)
    replace b6 := b6.alloc (.cells (faultC [(!isC (k : Int), 1), (!x.off (k : Int), 4)]).toArray 66)
    replace lw := lw.alloc lw.size (.cells (faultC [(!isC (k : Int), 1), (!x.off (k : Int), 4)]).toArray 66)
    refine hK.out _ _ (show World.rangeAt _ w.heap.size 0 x.cells from b3.range 0 13) (fun hHeld => ?_)
    clear hK K'
    try simp only [Act.put, List.setIfInBounds_toArray, List.set_cons_zero, List.set_cons_succ]
    refine wpAnyH_ready (rs := [10]) (by kernel_rfl) (by simp) (AllReadyH.cons (o := ⟨some 19, .call { callee := .value (.func 32), args := #[.tmp 18], argTypes := #[74] }, _, _, _, none⟩) rfl (fun K' hK => ?_) (AllReadyH.nil))
    go_simp
    (with_reducible refine (KF.out _ _ bf).mono ?_)
    rintro e v4 ⟨rfl, l1⟩
    replace b3 := b3.keep l1
    replace b6 := b6.keep l1
    replace lw := Later.trans_ lw l1
    clear bf
    refine hK.out _ _ (show World.rangeAt _ w.heap.size 0 x.cells from b3.range 0 13) (fun hHeld => ?_)
    clear hK K'
    try simp only [Act.put, List.setIfInBounds_toArray, List.set_cons_zero, List.set_cons_succ]
    refine wpAnyH_take (i := 11) (oi := ⟨some 7, .assign (.tmp 19), _, _, _, none⟩) (v := .int .i64 0) rfl (by kernel_rfl) (by kernel_rfl) (by kernel_rfl) (fun _ _ _ h => h) (Or.inl ⟨by rfl, fun _ _ => rfl⟩) hHeld ?_
    simp only [Act.put, List.setIfInBounds_toArray, List.set_cons_zero, List.set_cons_succ]
    refine wpAnyH_done (by kernel_rfl) ?_ _
    clear hHeld
    have e3 := b3.cell (clk_r x hk)
    go_upto_region 5 with fail
    clear e3
    go_wp2_with (first
      | ((with_reducible refine wpList_set1 (o := ⟨none, .store 4 (.tmp 32) (.const (.bool false)), _, _, _, none⟩) rfl _ _ _ rfl rfl w.heap.size (1 + k) 25 x.cells (.bool false) ?_ ?_ ?_ ?_ ?_ ?_ ?_); rfl; rfl; exact b3; exact b_sz; exact (show 1 + k < 13 by omega); rfl; intro w5 bq oq; clear b3; have b3 := bq; rw [set_o _ hk] at b3; clear bq; replace b6 := b6.only oq (by omega); replace lw := Below.only lw oq (Nat.le_refl _); clear oq)
      | ((with_reducible refine wpList_set1 (o := ⟨none, .store 3 (.tmp 34) (.const (.int .i64 0)), _, _, _, none⟩) rfl _ _ _ rfl rfl w.heap.size (5 + k) 25 ({ x with o := upd x.o k false } : Clk).cells (.int .i64 0) ?_ ?_ ?_ ?_ ?_ ?_ ?_); rfl; rfl; exact b3; exact i_sz; exact (show 5 + k < 13 by omega); rfl; intro w6 bq oq; clear b3; have b3 := bq; rw [set_r _ hk] at b3; clear bq; replace b6 := b6.only oq (by omega); replace lw := Below.only lw oq (Nat.le_refl _); clear oq)
      | ((with_reducible refine wpList_load_blk (o := ⟨some 35, .load 25 (.tmp 2), _, _, _, none⟩) rfl _ _ rfl w.heap.size 25 ({ x with o := upd x.o k false, r := upd x.r k 0 } : Clk).cells _ ?_ ?_ Try.underlying25 rfl (clk_sz _) ?_); rfl; exact b3)
      | ((with_reducible refine wpList_store_abs (o := ⟨none, .store 25 (.tmp 4) (.tmp 35), _, _, _, none⟩) rfl _ _ _ rfl (w.heap.size + 1) 25 zK.cells ({ x with o := upd x.o k false, r := upd x.r k 0 } : Clk).cells ?_ ?_ ?_ ?_ ?_ ?_ ?_); rfl; rfl; exact b6; exact clk_sz _; rfl; exact clk_one _; intro w9 b9 o9))
    exact bodyPost_ret (clk_ret3 Try.results14 _ _ (w.heap.size + 1) ({ x with o := upd x.o k false, r := upd x.r k 0 } : Clk) (.int .u32 z) (.int .i64 0) rfl rfl rfl b9) rfl ⟨rfl, Below.only lw o9 (by omega)⟩

  · rw [show x.readC c = x from if_neg h0, show x.readV c = 0 from if_neg h0]
    have KC := Lib.hid fun w' => isCPU_any c w'
    have KO := Lib.hid fun w' => isOffered_any x c w'
    have KF := Lib.hid fun (B : Nat) w' (h : Blk w' B 66 (faultC [(!isC c, 1), (!x.off c, 4)])) => (show Calls Try.prog 32 #[.slice (some ⟨B, 0, none⟩) 2 2] w' fun e w'' => e = .returned (.int .i64 (x.readE c)) ∧ Later w' w'' from first_any _ 2 B w' rfl (by omega) h)
    obtain ⟨E, hE⟩ : ∃ E, E = x.readE c := ⟨_, rfl⟩
    rw [← hE] at KF h0 ⊢
    have hne : (E != 0) = true := by simpa using h0
    clear hE h0
    go_enter Try.func14, Try.ntmps14
    go_upto_region 1 with fail
    obtain ⟨u0, hu⟩ : ∃ u0, (w.alloc (.cells x.cells.toArray 25)).alloc (.cells zK.cells.toArray 25) = u0 := ⟨_, rfl⟩
    rw [hu] at b3 b6 lw
    have hu2 : (w.alloc (.cells x.cells.toArray 25)).alloc (.cells #[.int .i64 0, .bool false, .bool false, .bool false, .bool false, .int .i64 0, .int .i64 0, .int .i64 0, .int .i64 0, .int .i64 0, .int .i64 0, .int .i64 0, .int .i64 0] 25) = u0 := hu
    rw [hu2]
    clear hu hu2
    replace b3 := b3.drew
    replace b6 := b6.drew
    replace lw := lw.drew
    refine wp_region_held_drew (S := fun w' => World.rangeAt w' w.heap.size 0 x.cells) (by kernel_rfl) (show World.rangeAt _ w.heap.size 0 x.cells from b3.range 0 13) (fun hHeld => ?_)
    refine wpAnyH_take (i := 0) (oi := ⟨some 9, .move (.tmp 1), _, _, _, none⟩) (v := .int .i64 c) rfl (by kernel_rfl) (by kernel_rfl) (by kernel_rfl) (fun _ _ _ h => h) (Or.inl ⟨by rfl, fun _ _ => rfl⟩) hHeld ?_
    simp only [Act.put, List.setIfInBounds_toArray, List.set_cons_zero, List.set_cons_succ]
    refine wpAnyH_take (i := 4) (oi := ⟨some 13, .load 25 (.tmp 2), _, _, _, none⟩) (v := .agg x.cells.toArray) rfl (by kernel_rfl) (by kernel_rfl) (by kernel_rfl) (fun _ _ _ h => h) (yieldsIf_load_mid (by rfl) _ _ rfl _ _ rfl x.cells _ (fun w h => h) Try.underlying25 rfl (clk_sz _)) hHeld ?_
    simp only [Act.put, List.setIfInBounds_toArray, List.set_cons_zero, List.set_cons_succ]
    refine wpAnyH_take (i := 5) (oi := ⟨some 14, .move (.tmp 1), _, _, _, none⟩) (v := .int .i64 c) rfl (by kernel_rfl) (by kernel_rfl) (by kernel_rfl) (fun _ _ _ h => h) (Or.inl ⟨by rfl, fun _ _ => rfl⟩) hHeld ?_
    simp only [Act.put, List.setIfInBounds_toArray, List.set_cons_zero, List.set_cons_succ]
    refine wpAnyH_ready (rs := [1]) (by kernel_rfl) (by simp) (AllReadyH.cons (o := ⟨some 10, .call { callee := .value (.func 33), args := #[.tmp 9], argTypes := #[3] }, _, _, _, none⟩) rfl (fun K' hK => ?_) (AllReadyH.nil))
    go_simp
    refine (KC.out _).mono ?_
    rintro e v1 ⟨rfl, rfl⟩
    refine hK.out _ _ (show World.rangeAt _ w.heap.size 0 x.cells from b3.range 0 13) (fun hHeld => ?_)
    clear hK K'
    try simp only [Act.put, List.setIfInBounds_toArray, List.set_cons_zero, List.set_cons_succ]
    refine wpAnyH_take (i := 2) (oi := ⟨some 11, .unOp .not 4 (.tmp 10), _, _, _, none⟩) (v := .bool (!isC c)) rfl (by kernel_rfl) (by kernel_rfl) (by kernel_rfl) (fun _ _ _ h => h) (Or.inl ⟨by rfl, fun w _ => by go_simp⟩) hHeld ?_
    simp only [Act.put, List.setIfInBounds_toArray, List.set_cons_zero, List.set_cons_succ]
    refine wpAnyH_take (i := 3) (oi := ⟨some 12, .build 66 #[(0, .tmp 11), (1, .const (.int .i64 1))], _, _, _, none⟩) (v := .agg #[.bool (!isC c), .int .i64 1]) rfl (by kernel_rfl) (by kernel_rfl) (by kernel_rfl) (fun _ _ _ h => h) (yieldsIf_build (by rfl) _ _ #[(0, .bool (!isC c)), (1, .int .i64 1)] _ rfl rfl (run_flt _ _)) hHeld ?_
    simp only [Act.put, List.setIfInBounds_toArray, List.set_cons_zero, List.set_cons_succ]
    refine wpAnyH_ready (rs := [6]) (by kernel_rfl) (by simp) (AllReadyH.cons (o := ⟨some 15, .call { callee := .value (.func 34), args := #[.tmp 13, .tmp 14], argTypes := #[25, 3] }, _, _, _, none⟩) rfl (fun K' hK => ?_) (AllReadyH.nil))
    go_simp
    (with_reducible refine (KO.out _).mono ?_)
    rintro e v3 ⟨rfl, l1⟩
    replace b3 := b3.keep l1
    replace b6 := b6.keep l1
    replace lw := Later.trans_ lw l1
    refine hK.out _ _ (show World.rangeAt _ w.heap.size 0 x.cells from b3.range 0 13) (fun hHeld => ?_)
    clear hK K'
    try simp only [Act.put, List.setIfInBounds_toArray, List.set_cons_zero, List.set_cons_succ]
    refine wpAnyH_take (i := 7) (oi := ⟨some 16, .unOp .not 4 (.tmp 15), _, _, _, none⟩) (v := .bool (!x.off c)) rfl (by kernel_rfl) (by kernel_rfl) (by kernel_rfl) (fun _ _ _ h => h) (Or.inl ⟨by rfl, fun w _ => by go_simp⟩) hHeld ?_
    simp only [Act.put, List.setIfInBounds_toArray, List.set_cons_zero, List.set_cons_succ]
    refine wpAnyH_take (i := 8) (oi := ⟨some 17, .build 66 #[(0, .tmp 16), (1, .const (.int .i64 4))], _, _, _, none⟩) (v := .agg #[.bool (!x.off c), .int .i64 4]) rfl (by kernel_rfl) (by kernel_rfl) (by kernel_rfl) (fun _ _ _ h => h) (yieldsIf_build (by rfl) _ _ #[(0, .bool (!x.off c)), (1, .int .i64 4)] _ rfl rfl (run_flt _ _)) hHeld ?_
    simp only [Act.put, List.setIfInBounds_toArray, List.set_cons_zero, List.set_cons_succ]
    refine wpAnyH_ready (rs := [9]) (by kernel_rfl) (by simp) (AllReadyH.cons (o := ⟨some 18, .buildSlice 74 2 #[(0, .tmp 12), (1, .tmp 17)], _, _, _, none⟩) rfl (fun K' hK => ?_) (AllReadyH.nil))
    refine wp_bs _ _ _ #[(0, fv (!isC c) 1), (1, fv (!x.off c) 4)] _ rfl rfl (run_bs2 _ _ _ _ _) ?_
    have bf := Blk.new v3 66 (faultC [(!isC c, 1), (!x.off c, 4)]).toArray (faultC [(!isC c, 1), (!x.off c, 4)]) rfl
    replace b3 := b3.alloc (.cells (faultC [(!isC c, 1), (!x.off c, 4)]).toArray 66)
    replace b6 := b6.alloc (.cells (faultC [(!isC c, 1), (!x.off c, 4)]).toArray 66)
    replace lw := lw.alloc lw.size (.cells (faultC [(!isC c, 1), (!x.off c, 4)]).toArray 66)
    refine hK.out _ _ (show World.rangeAt _ w.heap.size 0 x.cells from b3.range 0 13) (fun hHeld => ?_)
    clear hK K'
    try simp only [Act.put, List.setIfInBounds_toArray, List.set_cons_zero, List.set_cons_succ]
    refine wpAnyH_ready (rs := [10]) (by kernel_rfl) (by simp) (AllReadyH.cons (o := ⟨some 19, .call { callee := .value (.func 32), args := #[.tmp 18], argTypes := #[74] }, _, _, _, none⟩) rfl (fun K' hK => ?_) (AllReadyH.nil))
    go_simp
    (with_reducible refine (KF.out _ _ bf).mono ?_)
    rintro e v4 ⟨rfl, l1⟩
    replace b3 := b3.keep l1
    replace b6 := b6.keep l1
    replace lw := Later.trans_ lw l1
    clear bf
    refine hK.out _ _ (show World.rangeAt _ w.heap.size 0 x.cells from b3.range 0 13) (fun hHeld => ?_)
    clear hK K'
    try simp only [Act.put, List.setIfInBounds_toArray, List.set_cons_zero, List.set_cons_succ]
    refine wpAnyH_take (i := 11) (oi := ⟨some 7, .assign (.tmp 19), _, _, _, none⟩) (v := .int .i64 E) rfl (by kernel_rfl) (by kernel_rfl) (by kernel_rfl) (fun _ _ _ h => h) (Or.inl ⟨by rfl, fun _ _ => rfl⟩) hHeld ?_
    simp only [Act.put, List.setIfInBounds_toArray, List.set_cons_zero, List.set_cons_succ]
    refine wpAnyH_done (by kernel_rfl) ?_ _
    clear hHeld
    go_wp2_with (first
    | ((with_reducible refine wpList_load_blk (o := ⟨some 22, .load 25 (.tmp 2), _, _, _, none⟩) rfl _ _ rfl w.heap.size 25 x.cells _ ?_ ?_ Try.underlying25 rfl (clk_sz _) ?_); rfl; exact b3)
    | ((with_reducible refine wpList_store_abs (o := ⟨none, .store 25 (.tmp 4) (.tmp 22), _, _, _, none⟩) rfl _ _ _ rfl (w.heap.size + 1) 25 zK.cells x.cells ?_ ?_ ?_ ?_ ?_ ?_ ?_); rfl; rfl; exact b6; exact clk_sz _; rfl; exact clk_one _; intro w9 b9 o9))
    exact bodyPost_ret (clk_ret3 Try.results14 _ _ (w.heap.size + 1) x (.int .u32 0) (.int .i64 E) rfl rfl rfl b9) rfl ⟨rfl, Below.only lw o9 (by omega)⟩
set_option maxRecDepth 100000 in
set_option maxHeartbeats 4000000 in
theorem set_any (x : Clk) (c n v : Int) (w : World) (hv : 0 ≤ v ∧ v ≤ 4294967295) : Calls Try.prog 17 #[.agg x.cells.toArray, .int .i64 c, .int .i64 n, .int .u32 v] w fun e w' => e = .returned (.tuple #[.agg (x.setC c n v).cells.toArray, .int .i64 (setE c n)]) ∧ Later w w' := by
  have b3 := (Blk.new w 25 x.cells.toArray x.cells rfl).alloc (.cells zK.cells.toArray 25)
  have b6 := Blk.new' (w.alloc (.cells x.cells.toArray 25)) (w.heap.size + 1) 25 zK.cells.toArray zK.cells (by simp) rfl
  have lw := (later1 w (.cells x.cells.toArray 25)).alloc (by simp) (.cells zK.cells.toArray 25)
  by_cases h0 : setE c n = 0
  · obtain ⟨h1, h4⟩ := set_0 h0
    have hn := of_decide_eq_true h4
    obtain ⟨k, rfl, hk⟩ := isC_open h1
    have KC := Lib.hid fun w' => isCPU_any (k : Int) w'
    have KN := Lib.hid fun w' => isCount_any n w'
    have KF := Lib.hid fun (B : Nat) w' (h : Blk w' B 66 (faultC [(!isC (k : Int), 1), (!isN n, 1)])) => (show Calls Try.prog 32 #[.slice (some ⟨B, 0, none⟩) 2 2] w' fun e w'' => e = .returned (.int .i64 (setE (k : Int) n)) ∧ Later w' w'' from first_any _ 2 B w' rfl (by omega) h)
    rw [h0] at KF
    rw [h0]
    have hk4 : (k : Int) < 4 := by omega
    have hk0 : (0 : Int) ≤ k := by omega
    have hw1 : IntKind.i64.wrap v = v := by rw [IntKind.wrap_i64]; omega
    have hw2 : IntKind.i64.wrap (n + v) = n + v := by rw [IntKind.wrap_i64]; omega
    by_cases hv0 : v = 0
    · subst hv0
      have HX := Lib.hid (show x.setC (k : Int) n 0 = ({ x with a := upd x.a k 0 } : Clk) from by unfold Clk.setC alarm; rw [if_pos h0, Int.toNat_natCast]; rw [if_pos rfl])
      clear h0 h1 h4 hn hw1 hw2 hv
      go_enter Try.func17, Try.ntmps17
      go_upto_region 1 with fail
      obtain ⟨u0, hu⟩ : ∃ u0, (w.alloc (.cells x.cells.toArray 25)).alloc (.cells zK.cells.toArray 25) = u0 := ⟨_, rfl⟩
      rw [hu] at b3 b6 lw
      have hu2 : (w.alloc (.cells x.cells.toArray 25)).alloc (.cells #[.int .i64 0, .bool false, .bool false, .bool false, .bool false, .int .i64 0, .int .i64 0, .int .i64 0, .int .i64 0, .int .i64 0, .int .i64 0, .int .i64 0, .int .i64 0] 25) = u0 := hu
      rw [hu2]
      clear hu hu2
      go_wp2_with (first
        | (go_at_call 33; (with_reducible refine (KC.out _).mono ?_); rintro e v1 ⟨rfl, rfl⟩)
        | (go_at_call 31; (with_reducible refine (KN.out _).mono ?_); rintro e v2 ⟨rfl, rfl⟩)
        | ((with_reducible refine wpList_bld (o := ⟨some 14, .build 66 #[(0, .tmp 13), (1, .const (.int .i64 1))], _, _, _, none⟩) rfl _ #[(0, .tmp 13), (1, .const (.int .i64 1))] #[(0, .bool (!isC (k : Int))), (1, .int .i64 1)] #[.bool (!isC (k : Int)), .int .i64 1] rfl ?_ (run_flt _ _ _) ?_); rfl)
        | ((with_reducible refine wpList_bld (o := ⟨some 18, .build 66 #[(0, .tmp 17), (1, .const (.int .i64 1))], _, _, _, none⟩) rfl _ #[(0, .tmp 17), (1, .const (.int .i64 1))] #[(0, .bool (!isN n)), (1, .int .i64 1)] #[.bool (!isN n), .int .i64 1] rfl ?_ (run_flt _ _ _) ?_); rfl)
        | ((with_reducible refine wpList_bs (o := ⟨some 19, .buildSlice 74 2 #[(0, .tmp 14), (1, .tmp 18)], _, _, _, none⟩) rfl _ _ _ #[(0, fv (!isC (k : Int)) 1), (1, fv (!isN n) 1)] _ rfl ?_ (run_bs2 _ _ _ _ _) ?_); rfl; have bf := Blk.new u0 66 (faultC [(!isC (k : Int), 1), (!isN n, 1)]).toArray (faultC [(!isC (k : Int), 1), (!isN n, 1)]) rfl; replace b3 := b3.alloc (.cells (faultC [(!isC (k : Int), 1), (!isN n, 1)]).toArray 66); replace b6 := b6.alloc (.cells (faultC [(!isC (k : Int), 1), (!isN n, 1)]).toArray 66); replace lw := lw.alloc lw.size (.cells (faultC [(!isC (k : Int), 1), (!isN n, 1)]).toArray 66))
        | (go_at_call 32; (with_reducible refine (KF.out _ _ bf).mono ?_); rintro e v4 ⟨rfl, l1⟩; replace b3 := b3.keep l1; replace b6 := b6.keep l1; replace lw := Later.trans_ lw l1; clear bf)
        | ((with_reducible refine wpList_set1 (o := ⟨none, .store 3 (.tmp 27) (.const (.int .i64 0)), _, _, _, none⟩) rfl _ _ _ rfl rfl w.heap.size (9 + k) 25 x.cells (.int .i64 0) ?_ ?_ ?_ ?_ ?_ ?_ ?_); rfl; rfl; exact b3; exact i_sz; exact (show 9 + k < 13 by omega); rfl; intro w5 bq oq; clear b3; have b3 := bq; rw [set_a _ hk] at b3; clear bq; replace b6 := b6.only oq (by omega); replace lw := Below.only lw oq (Nat.le_refl _); clear oq)
        | ((with_reducible refine wpList_load_blk (o := ⟨some 38, .load 25 (.tmp 4), _, _, _, none⟩) rfl _ _ rfl w.heap.size 25 ({ x with a := upd x.a k 0 } : Clk).cells _ ?_ ?_ Try.underlying25 rfl (clk_sz _) ?_); rfl; exact b3)
        | ((with_reducible refine wpList_store_abs (o := ⟨none, .store 25 (.tmp 8) (.tmp 38), _, _, _, none⟩) rfl _ _ _ rfl (w.heap.size + 1) 25 zK.cells ({ x with a := upd x.a k 0 } : Clk).cells ?_ ?_ ?_ ?_ ?_ ?_ ?_); rfl; rfl; exact b6; exact clk_sz _; rfl; exact clk_one _; intro w9 b9 o9))
      exact bodyPost_ret (clk_ret2 Try.results17 _ _ (w.heap.size + 1) ({ x with a := upd x.a k 0 } : Clk) (.int .i64 0) rfl rfl b9) rfl ⟨by rw [HX.out], Below.only lw o9 (by omega)⟩
    · have hvne : (v != 0) = true := by simpa using hv0
      by_cases hs : n + v ≤ 1099511627776
      · have d1 : decide (n + v ≤ 1099511627776) = true := decide_eq_true hs
        have HX := Lib.hid (show x.setC (k : Int) n v = ({ x with a := upd (upd x.a k 0) k (n + v) } : Clk) from by unfold Clk.setC alarm; rw [if_pos h0, Int.toNat_natCast]; rw [if_neg hv0, upd_upd, Int.min_eq_left hs])
        clear h0 h1 h4 hv0
        go_enter Try.func17, Try.ntmps17
        go_upto_region 1 with fail
        obtain ⟨u0, hu⟩ : ∃ u0, (w.alloc (.cells x.cells.toArray 25)).alloc (.cells zK.cells.toArray 25) = u0 := ⟨_, rfl⟩
        rw [hu] at b3 b6 lw
        have hu2 : (w.alloc (.cells x.cells.toArray 25)).alloc (.cells #[.int .i64 0, .bool false, .bool false, .bool false, .bool false, .int .i64 0, .int .i64 0, .int .i64 0, .int .i64 0, .int .i64 0, .int .i64 0, .int .i64 0, .int .i64 0] 25) = u0 := hu
        rw [hu2]
        clear hu hu2
        go_wp2_with (first
          | (go_at_call 33; (with_reducible refine (KC.out _).mono ?_); rintro e v1 ⟨rfl, rfl⟩)
          | (go_at_call 31; (with_reducible refine (KN.out _).mono ?_); rintro e v2 ⟨rfl, rfl⟩)
          | ((with_reducible refine wpList_bld (o := ⟨some 14, .build 66 #[(0, .tmp 13), (1, .const (.int .i64 1))], _, _, _, none⟩) rfl _ #[(0, .tmp 13), (1, .const (.int .i64 1))] #[(0, .bool (!isC (k : Int))), (1, .int .i64 1)] #[.bool (!isC (k : Int)), .int .i64 1] rfl ?_ (run_flt _ _ _) ?_); rfl)
          | ((with_reducible refine wpList_bld (o := ⟨some 18, .build 66 #[(0, .tmp 17), (1, .const (.int .i64 1))], _, _, _, none⟩) rfl _ #[(0, .tmp 17), (1, .const (.int .i64 1))] #[(0, .bool (!isN n)), (1, .int .i64 1)] #[.bool (!isN n), .int .i64 1] rfl ?_ (run_flt _ _ _) ?_); rfl)
          | ((with_reducible refine wpList_bs (o := ⟨some 19, .buildSlice 74 2 #[(0, .tmp 14), (1, .tmp 18)], _, _, _, none⟩) rfl _ _ _ #[(0, fv (!isC (k : Int)) 1), (1, fv (!isN n) 1)] _ rfl ?_ (run_bs2 _ _ _ _ _) ?_); rfl; have bf := Blk.new u0 66 (faultC [(!isC (k : Int), 1), (!isN n, 1)]).toArray (faultC [(!isC (k : Int), 1), (!isN n, 1)]) rfl; replace b3 := b3.alloc (.cells (faultC [(!isC (k : Int), 1), (!isN n, 1)]).toArray 66); replace b6 := b6.alloc (.cells (faultC [(!isC (k : Int), 1), (!isN n, 1)]).toArray 66); replace lw := lw.alloc lw.size (.cells (faultC [(!isC (k : Int), 1), (!isN n, 1)]).toArray 66))
          | (go_at_call 32; (with_reducible refine (KF.out _ _ bf).mono ?_); rintro e v4 ⟨rfl, l1⟩; replace b3 := b3.keep l1; replace b6 := b6.keep l1; replace lw := Later.trans_ lw l1; clear bf)
          | ((with_reducible refine wpList_set1 (o := ⟨none, .store 3 (.tmp 27) (.const (.int .i64 0)), _, _, _, none⟩) rfl _ _ _ rfl rfl w.heap.size (9 + k) 25 x.cells (.int .i64 0) ?_ ?_ ?_ ?_ ?_ ?_ ?_); rfl; rfl; exact b3; exact i_sz; exact (show 9 + k < 13 by omega); rfl; intro w5 bq oq; clear b3; have b3 := bq; rw [set_a _ hk] at b3; clear bq; replace b6 := b6.only oq (by omega); replace lw := Below.only lw oq (Nat.le_refl _); clear oq)
          | ((with_reducible refine wpList_set1 (o := ⟨none, .store 3 (.tmp 37) (.tmp 35), _, _, _, none⟩) rfl _ _ _ rfl rfl w.heap.size (9 + k) 25 ({ x with a := upd x.a k 0 } : Clk).cells (.int .i64 (n + v)) ?_ ?_ ?_ ?_ ?_ ?_ ?_); rfl; rfl; exact b3; exact i_sz; exact (show 9 + k < 13 by omega); rfl; intro w6 bq oq; clear b3; have b3 := bq; rw [set_a _ hk] at b3; clear bq; replace b6 := b6.only oq (by omega); replace lw := Below.only lw oq (Nat.le_refl _); clear oq)
          | ((with_reducible refine wpList_load_blk (o := ⟨some 38, .load 25 (.tmp 4), _, _, _, none⟩) rfl _ _ rfl w.heap.size 25 ({ x with a := upd (upd x.a k 0) k (n + v) } : Clk).cells _ ?_ ?_ Try.underlying25 rfl (clk_sz _) ?_); rfl; exact b3)
          | ((with_reducible refine wpList_store_abs (o := ⟨none, .store 25 (.tmp 8) (.tmp 38), _, _, _, none⟩) rfl _ _ _ rfl (w.heap.size + 1) 25 zK.cells ({ x with a := upd (upd x.a k 0) k (n + v) } : Clk).cells ?_ ?_ ?_ ?_ ?_ ?_ ?_); rfl; rfl; exact b6; exact clk_sz _; rfl; exact clk_one _; intro w9 b9 o9))
        exact bodyPost_ret (clk_ret2 Try.results17 _ _ (w.heap.size + 1) ({ x with a := upd (upd x.a k 0) k (n + v) } : Clk) (.int .i64 0) rfl rfl b9) rfl ⟨by rw [HX.out], Below.only lw o9 (by omega)⟩
      · have d1 : decide (n + v ≤ 1099511627776) = false := decide_eq_false hs
        have HX := Lib.hid (show x.setC (k : Int) n v = ({ x with a := upd (upd x.a k 0) k 1099511627776 } : Clk) from by unfold Clk.setC alarm; rw [if_pos h0, Int.toNat_natCast]; rw [if_neg hv0, upd_upd, Int.min_eq_right (by omega)])
        clear h0 h1 h4 hv0
        go_enter Try.func17, Try.ntmps17
        go_upto_region 1 with fail
        obtain ⟨u0, hu⟩ : ∃ u0, (w.alloc (.cells x.cells.toArray 25)).alloc (.cells zK.cells.toArray 25) = u0 := ⟨_, rfl⟩
        rw [hu] at b3 b6 lw
        have hu2 : (w.alloc (.cells x.cells.toArray 25)).alloc (.cells #[.int .i64 0, .bool false, .bool false, .bool false, .bool false, .int .i64 0, .int .i64 0, .int .i64 0, .int .i64 0, .int .i64 0, .int .i64 0, .int .i64 0, .int .i64 0] 25) = u0 := hu
        rw [hu2]
        clear hu hu2
        go_wp2_with (first
          | (go_at_call 33; (with_reducible refine (KC.out _).mono ?_); rintro e v1 ⟨rfl, rfl⟩)
          | (go_at_call 31; (with_reducible refine (KN.out _).mono ?_); rintro e v2 ⟨rfl, rfl⟩)
          | ((with_reducible refine wpList_bld (o := ⟨some 14, .build 66 #[(0, .tmp 13), (1, .const (.int .i64 1))], _, _, _, none⟩) rfl _ #[(0, .tmp 13), (1, .const (.int .i64 1))] #[(0, .bool (!isC (k : Int))), (1, .int .i64 1)] #[.bool (!isC (k : Int)), .int .i64 1] rfl ?_ (run_flt _ _ _) ?_); rfl)
          | ((with_reducible refine wpList_bld (o := ⟨some 18, .build 66 #[(0, .tmp 17), (1, .const (.int .i64 1))], _, _, _, none⟩) rfl _ #[(0, .tmp 17), (1, .const (.int .i64 1))] #[(0, .bool (!isN n)), (1, .int .i64 1)] #[.bool (!isN n), .int .i64 1] rfl ?_ (run_flt _ _ _) ?_); rfl)
          | ((with_reducible refine wpList_bs (o := ⟨some 19, .buildSlice 74 2 #[(0, .tmp 14), (1, .tmp 18)], _, _, _, none⟩) rfl _ _ _ #[(0, fv (!isC (k : Int)) 1), (1, fv (!isN n) 1)] _ rfl ?_ (run_bs2 _ _ _ _ _) ?_); rfl; have bf := Blk.new u0 66 (faultC [(!isC (k : Int), 1), (!isN n, 1)]).toArray (faultC [(!isC (k : Int), 1), (!isN n, 1)]) rfl; replace b3 := b3.alloc (.cells (faultC [(!isC (k : Int), 1), (!isN n, 1)]).toArray 66); replace b6 := b6.alloc (.cells (faultC [(!isC (k : Int), 1), (!isN n, 1)]).toArray 66); replace lw := lw.alloc lw.size (.cells (faultC [(!isC (k : Int), 1), (!isN n, 1)]).toArray 66))
          | (go_at_call 32; (with_reducible refine (KF.out _ _ bf).mono ?_); rintro e v4 ⟨rfl, l1⟩; replace b3 := b3.keep l1; replace b6 := b6.keep l1; replace lw := Later.trans_ lw l1; clear bf)
          | ((with_reducible refine wpList_set1 (o := ⟨none, .store 3 (.tmp 27) (.const (.int .i64 0)), _, _, _, none⟩) rfl _ _ _ rfl rfl w.heap.size (9 + k) 25 x.cells (.int .i64 0) ?_ ?_ ?_ ?_ ?_ ?_ ?_); rfl; rfl; exact b3; exact i_sz; exact (show 9 + k < 13 by omega); rfl; intro w5 bq oq; clear b3; have b3 := bq; rw [set_a _ hk] at b3; clear bq; replace b6 := b6.only oq (by omega); replace lw := Below.only lw oq (Nat.le_refl _); clear oq)
          | ((with_reducible refine wpList_set1 (o := ⟨none, .store 3 (.tmp 37) (.tmp 35), _, _, _, none⟩) rfl _ _ _ rfl rfl w.heap.size (9 + k) 25 ({ x with a := upd x.a k 0 } : Clk).cells (.int .i64 1099511627776) ?_ ?_ ?_ ?_ ?_ ?_ ?_); rfl; rfl; exact b3; exact i_sz; exact (show 9 + k < 13 by omega); rfl; intro w6 bq oq; clear b3; have b3 := bq; rw [set_a _ hk] at b3; clear bq; replace b6 := b6.only oq (by omega); replace lw := Below.only lw oq (Nat.le_refl _); clear oq)
          | ((with_reducible refine wpList_load_blk (o := ⟨some 38, .load 25 (.tmp 4), _, _, _, none⟩) rfl _ _ rfl w.heap.size 25 ({ x with a := upd (upd x.a k 0) k 1099511627776 } : Clk).cells _ ?_ ?_ Try.underlying25 rfl (clk_sz _) ?_); rfl; exact b3)
          | ((with_reducible refine wpList_store_abs (o := ⟨none, .store 25 (.tmp 8) (.tmp 38), _, _, _, none⟩) rfl _ _ _ rfl (w.heap.size + 1) 25 zK.cells ({ x with a := upd (upd x.a k 0) k 1099511627776 } : Clk).cells ?_ ?_ ?_ ?_ ?_ ?_ ?_); rfl; rfl; exact b6; exact clk_sz _; rfl; exact clk_one _; intro w9 b9 o9))
        exact bodyPost_ret (clk_ret2 Try.results17 _ _ (w.heap.size + 1) ({ x with a := upd (upd x.a k 0) k 1099511627776 } : Clk) (.int .i64 0) rfl rfl b9) rfl ⟨by rw [HX.out], Below.only lw o9 (by omega)⟩
  · rw [show x.setC c n v = x from if_neg h0]
    have KC := Lib.hid fun w' => isCPU_any c w'
    have KN := Lib.hid fun w' => isCount_any n w'
    have KF := Lib.hid fun (B : Nat) w' (h : Blk w' B 66 (faultC [(!isC c, 1), (!isN n, 1)])) => (show Calls Try.prog 32 #[.slice (some ⟨B, 0, none⟩) 2 2] w' fun e w'' => e = .returned (.int .i64 (setE c n)) ∧ Later w' w'' from first_any _ 2 B w' rfl (by omega) h)
    obtain ⟨E, hE⟩ : ∃ E, E = setE c n := ⟨_, rfl⟩
    rw [← hE] at KF h0 ⊢
    have hne : (E != 0) = true := by simpa using h0
    clear hE h0 hv
    go_enter Try.func17, Try.ntmps17
    go_upto_region 1 with fail
    obtain ⟨u0, hu⟩ : ∃ u0, (w.alloc (.cells x.cells.toArray 25)).alloc (.cells zK.cells.toArray 25) = u0 := ⟨_, rfl⟩
    rw [hu] at b3 b6 lw
    have hu2 : (w.alloc (.cells x.cells.toArray 25)).alloc (.cells #[.int .i64 0, .bool false, .bool false, .bool false, .bool false, .int .i64 0, .int .i64 0, .int .i64 0, .int .i64 0, .int .i64 0, .int .i64 0, .int .i64 0, .int .i64 0] 25) = u0 := hu
    rw [hu2]
    clear hu hu2
    go_wp2_with (first
      | (go_at_call 33; (with_reducible refine (KC.out _).mono ?_); rintro e v1 ⟨rfl, rfl⟩)
      | (go_at_call 31; (with_reducible refine (KN.out _).mono ?_); rintro e v2 ⟨rfl, rfl⟩)
      | ((with_reducible refine wpList_bld (o := ⟨some 14, .build 66 #[(0, .tmp 13), (1, .const (.int .i64 1))], _, _, _, none⟩) rfl _ #[(0, .tmp 13), (1, .const (.int .i64 1))] #[(0, .bool (!isC c)), (1, .int .i64 1)] #[.bool (!isC c), .int .i64 1] rfl ?_ (run_flt _ _ _) ?_); rfl)
      | ((with_reducible refine wpList_bld (o := ⟨some 18, .build 66 #[(0, .tmp 17), (1, .const (.int .i64 1))], _, _, _, none⟩) rfl _ #[(0, .tmp 17), (1, .const (.int .i64 1))] #[(0, .bool (!isN n)), (1, .int .i64 1)] #[.bool (!isN n), .int .i64 1] rfl ?_ (run_flt _ _ _) ?_); rfl)
      | ((with_reducible refine wpList_bs (o := ⟨some 19, .buildSlice 74 2 #[(0, .tmp 14), (1, .tmp 18)], _, _, _, none⟩) rfl _ _ _ #[(0, fv (!isC c) 1), (1, fv (!isN n) 1)] _ rfl ?_ (run_bs2 _ _ _ _ _) ?_); rfl; have bf := Blk.new u0 66 (faultC [(!isC c, 1), (!isN n, 1)]).toArray (faultC [(!isC c, 1), (!isN n, 1)]) rfl; replace b3 := b3.alloc (.cells (faultC [(!isC c, 1), (!isN n, 1)]).toArray 66); replace b6 := b6.alloc (.cells (faultC [(!isC c, 1), (!isN n, 1)]).toArray 66); replace lw := lw.alloc lw.size (.cells (faultC [(!isC c, 1), (!isN n, 1)]).toArray 66))
      | (go_at_call 32; (with_reducible refine (KF.out _ _ bf).mono ?_); rintro e v4 ⟨rfl, l1⟩; replace b3 := b3.keep l1; replace b6 := b6.keep l1; replace lw := Later.trans_ lw l1; clear bf)
      | ((with_reducible refine wpList_load_blk (o := ⟨some 23, .load 25 (.tmp 4), _, _, _, none⟩) rfl _ _ rfl w.heap.size 25 x.cells _ ?_ ?_ Try.underlying25 rfl (clk_sz _) ?_); rfl; exact b3)
      | ((with_reducible refine wpList_store_abs (o := ⟨none, .store 25 (.tmp 8) (.tmp 23), _, _, _, none⟩) rfl _ _ _ rfl (w.heap.size + 1) 25 zK.cells x.cells ?_ ?_ ?_ ?_ ?_ ?_ ?_); rfl; rfl; exact b6; exact clk_sz _; rfl; exact clk_one _; intro w9 b9 o9))
    exact bodyPost_ret (clk_ret2 Try.results17 _ _ (w.heap.size + 1) x (.int .i64 E) rfl rfl b9) rfl ⟨rfl, Below.only lw o9 (by omega)⟩
set_option maxRecDepth 100000 in
set_option maxHeartbeats 4000000 in
theorem fire_any (x : Clk) (c n : Int) (w : World) : Calls Try.prog 18 #[.agg x.cells.toArray, .int .i64 c, .int .i64 n] w fun e w' => e = .returned (.tuple #[.agg (x.fireC c n).cells.toArray, .bool (x.fire c n)]) ∧ Later w w' := by
  have b3 := (Blk.new w 25 x.cells.toArray x.cells rfl).alloc (.cells zK.cells.toArray 25)
  have b6 := Blk.new' (w.alloc (.cells x.cells.toArray 25)) (w.heap.size + 1) 25 zK.cells.toArray zK.cells (by simp) rfl
  have lw := (later1 w (.cells x.cells.toArray 25)).alloc (by simp) (.cells zK.cells.toArray 25)
  have KX := Lib.hid fun w' => next_any x c w'
  by_cases h0 : x.next c = 0 ∨ n < x.next c
  · have hf : x.fire c n = false := by unfold Clk.fire; rcases h0 with h | h <;> simp [h]
    rw [show x.fireC c n = x from by unfold Clk.fireC; rw [hf]; rfl, hf]
    obtain ⟨d, hd⟩ : ∃ d, d = x.next c := ⟨_, rfl⟩
    rw [← hd] at KX h0
    clear hf hd
    by_cases h1 : d = 0
    · subst h1
      clear h0
      go_enter Try.func18, Try.ntmps18
      go_upto_region 1 with fail
      obtain ⟨u0, hu⟩ : ∃ u0, (w.alloc (.cells x.cells.toArray 25)).alloc (.cells zK.cells.toArray 25) = u0 := ⟨_, rfl⟩
      rw [hu] at b3 b6 lw
      have hu2 : (w.alloc (.cells x.cells.toArray 25)).alloc (.cells #[.int .i64 0, .bool false, .bool false, .bool false, .bool false, .int .i64 0, .int .i64 0, .int .i64 0, .int .i64 0, .int .i64 0, .int .i64 0, .int .i64 0, .int .i64 0] 25) = u0 := hu
      rw [hu2]
      clear hu hu2
      go_wp2_with (first
        | ((with_reducible refine wpList_load_blk (o := ⟨some 9, .load 25 (.tmp 3), _, _, _, none⟩) rfl _ _ rfl w.heap.size 25 x.cells _ ?_ ?_ Try.underlying25 rfl (clk_sz _) ?_); rfl; exact b3)
        | (go_at_call 21; (with_reducible refine (KX.out _).mono ?_); rintro e v4 ⟨rfl, l1⟩; replace b3 := b3.keep l1; replace b6 := b6.keep l1; replace lw := Later.trans_ lw l1)
        | ((with_reducible refine wpList_load_blk (o := ⟨some 19, .load 25 (.tmp 3), _, _, _, none⟩) rfl _ _ rfl w.heap.size 25 x.cells _ ?_ ?_ Try.underlying25 rfl (clk_sz _) ?_); rfl; exact b3)
        | ((with_reducible refine wpList_store_abs (o := ⟨none, .store 25 (.tmp 6) (.tmp 19), _, _, _, none⟩) rfl _ _ _ rfl (w.heap.size + 1) 25 zK.cells x.cells ?_ ?_ ?_ ?_ ?_ ?_ ?_); rfl; rfl; exact b6; exact clk_sz _; rfl; exact clk_one _; intro w9 b9 o9))
      exact bodyPost_ret (clk_ret2 Try.results18 _ _ (w.heap.size + 1) x (.bool false) rfl rfl b9) rfl ⟨rfl, Below.only lw o9 (by omega)⟩
    · have d0 : (d == 0) = false := beq_false_of_ne h1
      have d1 : decide (n < d) = true := decide_eq_true (by rcases h0 with h | h; exact absurd h h1; exact h)
      clear h0
      go_enter Try.func18, Try.ntmps18
      go_upto_region 1 with fail
      obtain ⟨u0, hu⟩ : ∃ u0, (w.alloc (.cells x.cells.toArray 25)).alloc (.cells zK.cells.toArray 25) = u0 := ⟨_, rfl⟩
      rw [hu] at b3 b6 lw
      have hu2 : (w.alloc (.cells x.cells.toArray 25)).alloc (.cells #[.int .i64 0, .bool false, .bool false, .bool false, .bool false, .int .i64 0, .int .i64 0, .int .i64 0, .int .i64 0, .int .i64 0, .int .i64 0, .int .i64 0, .int .i64 0] 25) = u0 := hu
      rw [hu2]
      clear hu hu2
      go_wp2_with (first
        | ((with_reducible refine wpList_load_blk (o := ⟨some 9, .load 25 (.tmp 3), _, _, _, none⟩) rfl _ _ rfl w.heap.size 25 x.cells _ ?_ ?_ Try.underlying25 rfl (clk_sz _) ?_); rfl; exact b3)
        | (go_at_call 21; (with_reducible refine (KX.out _).mono ?_); rintro e v4 ⟨rfl, l1⟩; replace b3 := b3.keep l1; replace b6 := b6.keep l1; replace lw := Later.trans_ lw l1)
        | ((with_reducible refine wpList_load_blk (o := ⟨some 19, .load 25 (.tmp 3), _, _, _, none⟩) rfl _ _ rfl w.heap.size 25 x.cells _ ?_ ?_ Try.underlying25 rfl (clk_sz _) ?_); rfl; exact b3)
        | ((with_reducible refine wpList_store_abs (o := ⟨none, .store 25 (.tmp 6) (.tmp 19), _, _, _, none⟩) rfl _ _ _ rfl (w.heap.size + 1) 25 zK.cells x.cells ?_ ?_ ?_ ?_ ?_ ?_ ?_); rfl; rfl; exact b6; exact clk_sz _; rfl; exact clk_one _; intro w9 b9 o9))
      exact bodyPost_ret (clk_ret2 Try.results18 _ _ (w.heap.size + 1) x (.bool false) rfl rfl b9) rfl ⟨rfl, Below.only lw o9 (by omega)⟩
  · have h1 : x.next c ≠ 0 := fun h => h0 (Or.inl h)
    have h2 : ¬ n < x.next c := fun h => h0 (Or.inr h)
    have hc : isC c = true := by
      cases hc : isC c with
      | true => rfl
      | false => exact absurd (show x.next c = 0 from by unfold Clk.next; rw [hc]; rfl) h1
    obtain ⟨k, rfl, hk⟩ := isC_open hc
    have hf : x.fire (k : Int) n = true := by unfold Clk.fire; simp [h1, h2]
    rw [show x.fireC (k : Int) n = ({ x with a := upd x.a k 0 } : Clk) from by unfold Clk.fireC; rw [hf, if_pos rfl, Int.toNat_natCast], hf]
    have hk4 : (k : Int) < 4 := by omega
    have hk0 : (0 : Int) ≤ k := by omega
    obtain ⟨d, hd⟩ : ∃ d, d = x.next (k : Int) := ⟨_, rfl⟩
    rw [← hd] at KX h1 h2
    have d0 : (d == 0) = false := beq_false_of_ne h1
    have d1 : decide (n < d) = false := decide_eq_false h2
    clear h0 hc hf hd
    go_enter Try.func18, Try.ntmps18
    go_upto_region 1 with fail
    obtain ⟨u0, hu⟩ : ∃ u0, (w.alloc (.cells x.cells.toArray 25)).alloc (.cells zK.cells.toArray 25) = u0 := ⟨_, rfl⟩
    rw [hu] at b3 b6 lw
    have hu2 : (w.alloc (.cells x.cells.toArray 25)).alloc (.cells #[.int .i64 0, .bool false, .bool false, .bool false, .bool false, .int .i64 0, .int .i64 0, .int .i64 0, .int .i64 0, .int .i64 0, .int .i64 0, .int .i64 0, .int .i64 0] 25) = u0 := hu
    rw [hu2]
    clear hu hu2
    go_wp2_with (first
      | ((with_reducible refine wpList_load_blk (o := ⟨some 9, .load 25 (.tmp 3), _, _, _, none⟩) rfl _ _ rfl w.heap.size 25 x.cells _ ?_ ?_ Try.underlying25 rfl (clk_sz _) ?_); rfl; exact b3)
      | (go_at_call 21; (with_reducible refine (KX.out _).mono ?_); rintro e v4 ⟨rfl, l1⟩; replace b3 := b3.keep l1; replace b6 := b6.keep l1; replace lw := Later.trans_ lw l1)
      | ((with_reducible refine wpList_set1 (o := ⟨none, .store 3 (.tmp 22) (.const (.int .i64 0)), _, _, _, none⟩) rfl _ _ _ rfl rfl w.heap.size (9 + k) 25 x.cells (.int .i64 0) ?_ ?_ ?_ ?_ ?_ ?_ ?_); rfl; rfl; exact b3; exact i_sz; exact (show 9 + k < 13 by omega); rfl; intro w5 bq oq; clear b3; have b3 := bq; rw [set_a _ hk] at b3; clear bq; replace b6 := b6.only oq (by omega); replace lw := Below.only lw oq (Nat.le_refl _); clear oq)
      | ((with_reducible refine wpList_load_blk (o := ⟨some 23, .load 25 (.tmp 3), _, _, _, none⟩) rfl _ _ rfl w.heap.size 25 ({ x with a := upd x.a k 0 } : Clk).cells _ ?_ ?_ Try.underlying25 rfl (clk_sz _) ?_); rfl; exact b3)
      | ((with_reducible refine wpList_store_abs (o := ⟨none, .store 25 (.tmp 6) (.tmp 23), _, _, _, none⟩) rfl _ _ _ rfl (w.heap.size + 1) 25 zK.cells ({ x with a := upd x.a k 0 } : Clk).cells ?_ ?_ ?_ ?_ ?_ ?_ ?_); rfl; rfl; exact b6; exact clk_sz _; rfl; exact clk_one _; intro w9 b9 o9))
    exact bodyPost_ret (clk_ret2 Try.results18 _ _ (w.heap.size + 1) ({ x with a := upd x.a k 0 } : Clk) (.bool true) rfl rfl b9) rfl ⟨rfl, Below.only lw o9 (by omega)⟩
end Go.Proofs.Ytdohocbpjpnmeaa
