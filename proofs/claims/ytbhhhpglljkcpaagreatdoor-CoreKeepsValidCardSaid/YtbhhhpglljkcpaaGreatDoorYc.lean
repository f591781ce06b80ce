/-
  THE STATEMENT CoreKeepsValid: a processor that is not ready; every case.
-/
import Derived.Test.YtbhhhpglljkcpaaGreatDoorXs
import Derived.Test.YtbhhhpglljkcpaaGreatDoorYb
namespace Go.Proofs.YtbhhhpglljkcpaaGreatDoor
open Go.RowKit Go.ChangeShapes Go.WideShapes Go.ChangeAt

theorem eff_ec {s : Sp} {x : Cpu} (h : s.ec = x) : (s.eff.drop 1).take 30 = x.cells := by
  subst h
  rfl
theorem range_ec {w : World} {g : Nat} {t : TypeId} {s : Sp} {x : Cpu} (b : Blk w g t s.eff) (h : s.ec = x) : World.rangeAt w g 1 x.cells := by
  have := b.range 1 30
  rw [eff_ec h] at this
  exact this
set_option maxRecDepth 100000 in
set_option maxHeartbeats 16000000 in
theorem keep_idle (x : Cpu) (A : Option Addr) (n c : Nat) (b : Wm.Bs) (p v : Int) (ok : Bool) (w : World) (_hrv : x.Rv) (_hc0 : 0 ≤ x.c0 ∧ x.c0 ≤ 4294967295) (_hpcr : 0 ≤ x.pc ∧ x.pc ≤ 4294967295) (_hc5 : Tm.isE x.c5) (hp : Tm.isE p) (_hs : Sl w 128 A n (U b)) (_hb : Wm.isBs b) (tab : Tab w) (hS : ∀ w', Tab w' → Calls Tryz.prog 11 #[] w' fun e w'' => e = .returned (.bool true) ∧ Later w' w'') (hR : RightB x n = true) (hr : rdy x.hl x.wt p = false) :
    Calls Tryz.prog 7 #[.agg x.cells.toArray, .agg #[.slice A n c], .int .u32 p, .int .u32 v, .bool ok] w fun e w' => e = .returned (.bool true) ∧ Later w w' := by
  have KS := Lib.hid fun w' (l : Later w w') => hS w' (tab.keep l)
  have KR := Lib.hid fun w' => cright_any x A n c w'
  have b3 := (Blk.new w 26 x.cells.toArray x.cells rfl).alloc (.cells #[.slice A n c] 29)
  have b4 := Blk.new' (w.alloc (.cells x.cells.toArray 26)) (w.heap.size + 1) 29 #[.slice A n c] [.slice A n c] (by simp) rfl
  have lw := (later1 w (.cells x.cells.toArray 26)).alloc (by simp) (.cells #[.slice A n c] 29)
  obtain ⟨u0, hu⟩ : ∃ u0, (w.alloc (.cells x.cells.toArray 26)).alloc (.cells #[.slice A n c] 29) = u0 := ⟨_, rfl⟩
  rw [hu] at b3 b4 lw
  rw [hR] at KR
  unfold RightB at hR
  simp only [Bool.and_eq_true, decide_eq_true_eq] at hR
  obtain ⟨s, hse⟩ : ∃ s : Sp, s = { zS with ec := x } := ⟨_, rfl⟩
  have KP := Lib.hid fun w' => step_not x A n c p w' hp hr
  rw [← hse] at KP
  have KA := Lib.hid fun w' => ans_same s v ok w' (by rw [hse]; rfl) (by rw [hse]; rfl) (by rw [hse]; rfl)
  have HDN := Lib.hid (show s.dn = false by rw [hse]; rfl)
  have HAK := Lib.hid (show s.ak = false by rw [hse]; rfl)
  have HEC := Lib.hid (show s.ec = x by rw [hse])
  have HWV := Lib.hid (show s.wv = .slice none 0 0 by rw [hse]; rfl)
  have HAV := Lib.hid (show s.av = .slice none 0 0 by rw [hse]; rfl)
  have KY := Lib.hid fun w' => ready_any x p w' hp
  rw [hr] at KY
  have KV := Lib.hid fun w' => valid_any x w'
  rw [hR.1] at KV
  have heq := cpu_same x
  clear hS tab _hs _hb _hrv _hc0 _hpcr _hc5 hp hr hR hse
  go_enter Tryz.func7, Tryz.ntmps7
  go_upto_region 1 with fail
  clear hu
  go_upto_region 4 with (first
    | ((with_reducible refine wpList_load_blk (o := ⟨some 20, .load 26 (.tmp 5), _, _, _, none⟩) rfl _ _ rfl w.heap.size 26 x.cells _ ?_ ?_ Tryz.underlying26 rfl (cpu_sz _) ?_); rfl; exact b3)
    | ((with_reducible refine wpList_load_blk (o := ⟨some 21, .load 29 (.tmp 6), _, _, _, none⟩) rfl _ _ rfl (w.heap.size + 1) 29 [.slice A n c] _ ?_ ?_ Tryz.underlying29 rfl mem_sz ?_); rfl; exact b4)
    | (go_at_call 10; (with_reducible refine (KR.out _).mono ?_); rintro e w1 ⟨rfl, l1⟩; replace b3 := b3.keep l1; replace b4 := b4.keep l1; replace lw := Later.trans_ lw l1)
    | ((with_reducible refine wpList_load_blk (o := ⟨some 25, .load 26 (.tmp 5), _, _, _, none⟩) rfl _ _ rfl w.heap.size 26 x.cells _ ?_ ?_ Tryz.underlying26 rfl (cpu_sz _) ?_); rfl; exact b3)
    | ((with_reducible refine wpList_load_blk (o := ⟨some 26, .load 29 (.tmp 6), _, _, _, none⟩) rfl _ _ rfl (w.heap.size + 1) 29 [.slice A n c] _ ?_ ?_ Tryz.underlying29 rfl mem_sz ?_); rfl; exact b4)
    | (go_at_call 13; (with_reducible refine (KP.out _).mono ?_); rintro e w2 ⟨rfl, l1⟩; replace b3 := b3.keep l1; replace b4 := b4.keep l1; replace lw := Later.trans_ lw l1)
    | (go_at_call 15; (with_reducible refine (KA.out _).mono ?_); rintro e w3 ⟨rfl, l1⟩; replace b3 := b3.keep l1; replace b4 := b4.keep l1; replace lw := Later.trans_ lw l1)
    | ((with_reducible refine wpList_store_abs (o := ⟨none, .store 38 (.tmp 11) (.tmp 31), _, _, _, none⟩) rfl _ _ _ rfl w3.heap.size 38 zS.eff s.eff ?_ ?_ ?_ ?_ ?_ ?_ ?_); rfl; rfl; exact (Blk.new _ _ _ _ rfl); exact eff_sz _; rfl; exact (eff_one _ (by rw [HWV.out]; rfl) (by rw [HAV.out]; rfl)); intro u4 b10 ob; have l9 := Below.only (later1 w3 (.cells zS.eff.toArray 38)) ob (Nat.le_refl _); replace b3 := b3.keep l9; replace b4 := b4.keep l9; replace lw := Later.trans_ lw l9; clear ob l9))
  replace b3 := b3.drew
  replace b4 := b4.drew
  replace b10 := b10.drew
  replace lw := lw.drew
  refine wp_region_held_drew (S := fun w' => w'.cell? ⟨w3.heap.size, 0, none⟩ = some (.bool false) ∧ World.rangeAt w' w.heap.size 0 x.cells ∧ World.rangeAt w' w3.heap.size 1 x.cells ∧ w'.cell? ⟨w3.heap.size, 64, none⟩ = some (.bool false)) (by kernel_rfl) ⟨b10.cell (j := 0) (congrArg (fun z => some (Value.bool z)) HDN.out), b3.range 0 30, range_ec b10 HEC.out, b10.cell (j := 64) (congrArg (fun z => some (Value.bool z)) HAK.out)⟩ (fun hHeld => ?_)
  refine wpAnyH_take (i := 0) (oi := ⟨some 32, .fieldAddr 38 (.tmp 11) 0, _, _, _, none⟩) (v := .pointer (some ⟨w3.heap.size, 0, none⟩)) rfl (by kernel_rfl) (by kernel_rfl) (by kernel_rfl) (fun _ _ _ h => h) (Or.inl ⟨by rfl, fun w _ => by go_simp⟩) hHeld ?_
  simp only [Act.put, List.setIfInBounds_toArray, List.set_cons_zero, List.set_cons_succ]
  refine wpAnyH_take (i := 1) (oi := ⟨some 33, .load 4 (.tmp 32), _, _, _, none⟩) (v := .bool false) rfl (by kernel_rfl) (by kernel_rfl) (by kernel_rfl) (fun _ _ _ h => h) (Or.inl ⟨by rfl, fun w hSw => by have e1 := hSw.1; clear hSw; go_simp⟩) hHeld ?_
  simp only [Act.put, List.setIfInBounds_toArray, List.set_cons_zero, List.set_cons_succ]
  refine wpAnyH_take (i := 2) (oi := ⟨some 34, .load 26 (.tmp 5), _, _, _, none⟩) (v := .agg x.cells.toArray) rfl (by kernel_rfl) (by kernel_rfl) (by kernel_rfl) (fun _ _ _ h => h) (yieldsIf_load_mid (by rfl) _ _ rfl _ _ rfl x.cells _ (fun w h => h.2.1) Tryz.underlying26 rfl (cpu_sz _)) hHeld ?_
  simp only [Act.put, List.setIfInBounds_toArray, List.set_cons_zero, List.set_cons_succ]
  refine wpAnyH_take (i := 3) (oi := ⟨some 35, .move (.tmp 2), _, _, _, none⟩) (v := .int .u32 p) rfl (by kernel_rfl) (by kernel_rfl) (by kernel_rfl) (fun _ _ _ h => h) (Or.inl ⟨by rfl, fun _ _ => rfl⟩) hHeld ?_
  simp only [Act.put, List.setIfInBounds_toArray, List.set_cons_zero, List.set_cons_succ]
  refine wpAnyH_ready (rs := [4]) (by kernel_rfl) (by simp) (AllReadyH.cons (o := ⟨some 36, .call { callee := .value (.func 20), args := #[.tmp 34, .tmp 35], argTypes := #[26, 22] }, _, _, _, none⟩) rfl (fun K' hK => ?_) (AllReadyH.nil))
  go_simp
  (with_reducible refine (KY.out _).mono ?_)
  rintro e w4 ⟨rfl, l1⟩
  replace b3 := b3.keep l1
  replace b4 := b4.keep l1
  replace b10 := b10.keep l1
  replace lw := Later.trans_ lw l1
  refine hK.out _ _ ⟨b10.cell (j := 0) (congrArg (fun z => some (Value.bool z)) HDN.out), b3.range 0 30, range_ec b10 HEC.out, b10.cell (j := 64) (congrArg (fun z => some (Value.bool z)) HAK.out)⟩ (fun hHeld => ?_)
  clear hK K'
  try simp only [Act.put, List.setIfInBounds_toArray, List.set_cons_zero, List.set_cons_succ]
  refine wpAnyH_take (i := 5) (oi := ⟨some 37, .binOp .neq 4 (.tmp 33) (.tmp 36) 4, _, _, _, none⟩) (v := .bool false) rfl (by kernel_rfl) (by kernel_rfl) (by kernel_rfl) (fun _ _ _ h => h) (Or.inl ⟨by rfl, fun w _ => by go_simp⟩) hHeld ?_
  simp only [Act.put, List.setIfInBounds_toArray, List.set_cons_zero, List.set_cons_succ]
  refine wpAnyH_take (i := 6) (oi := ⟨some 38, .move (.tmp 37), _, _, _, none⟩) (v := .bool false) rfl (by kernel_rfl) (by kernel_rfl) (by kernel_rfl) (fun _ _ _ h => h) (Or.inl ⟨by rfl, fun _ _ => rfl⟩) hHeld ?_
  simp only [Act.put, List.setIfInBounds_toArray, List.set_cons_zero, List.set_cons_succ]
  refine wpAnyH_take (i := 7) (oi := ⟨some 39, .fieldAddr 38 (.tmp 11) 1, _, _, _, _⟩) (v := .pointer (some ⟨w3.heap.size, 1, none⟩)) rfl (by kernel_rfl) (by kernel_rfl) (by kernel_rfl) (fun _ _ _ h => h) (Or.inl ⟨by rfl, fun w _ => by go_simp⟩) hHeld ?_
  simp only [Act.put, List.setIfInBounds_toArray, List.set_cons_zero, List.set_cons_succ]
  refine wpAnyH_take (i := 8) (oi := ⟨some 40, .load 26 (.tmp 39), _, _, _, _⟩) (v := .agg x.cells.toArray) rfl (by kernel_rfl) (by kernel_rfl) (by kernel_rfl) (fun _ _ _ h => h) (yieldsIf_load_mid (by rfl) _ _ rfl _ _ rfl x.cells _ (fun w h => h.2.2.1) Tryz.underlying26 rfl (cpu_sz _)) hHeld ?_
  simp only [Act.put, List.setIfInBounds_toArray, List.set_cons_zero, List.set_cons_succ]
  refine wpAnyH_ready (rs := [9]) (by kernel_rfl) (by simp) (AllReadyH.cons (o := ⟨some 41, .call { callee := .value (.func 21), args := #[.tmp 40], argTypes := #[26] }, _, _, _, _⟩) rfl (fun K' hK => ?_) (AllReadyH.nil))
  go_simp
  (with_reducible refine (KV.out _).mono ?_)
  rintro e w5 ⟨rfl, l1⟩
  replace b3 := b3.keep l1
  replace b4 := b4.keep l1
  replace b10 := b10.keep l1
  replace lw := Later.trans_ lw l1
  refine hK.out _ _ ⟨b10.cell (j := 0) (congrArg (fun z => some (Value.bool z)) HDN.out), b3.range 0 30, range_ec b10 HEC.out, b10.cell (j := 64) (congrArg (fun z => some (Value.bool z)) HAK.out)⟩ (fun hHeld => ?_)
  clear hK K'
  try simp only [Act.put, List.setIfInBounds_toArray, List.set_cons_zero, List.set_cons_succ]
  refine wpAnyH_take (i := 10) (oi := ⟨some 42, .unOp .not 4 (.tmp 41), _, _, _, _⟩) (v := .bool false) rfl (by kernel_rfl) (by kernel_rfl) (by kernel_rfl) (fun _ _ _ h => h) (Or.inl ⟨by rfl, fun w _ => by go_simp⟩) hHeld ?_
  simp only [Act.put, List.setIfInBounds_toArray, List.set_cons_zero, List.set_cons_succ]
  refine wpAnyH_take (i := 11) (oi := ⟨some 43, .pick (.tmp 38) (.const (.bool true)) (.tmp 42), _, _, _, none⟩) (v := .bool false) rfl (by kernel_rfl) (by kernel_rfl) (by kernel_rfl) (fun _ _ _ h => h) (Or.inl ⟨by rfl, fun w _ => by go_simp⟩) hHeld ?_
  simp only [Act.put, List.setIfInBounds_toArray, List.set_cons_zero, List.set_cons_succ]
  refine wpAnyH_take (i := 12) (oi := ⟨some 44, .move (.tmp 43), _, _, _, none⟩) (v := .bool false) rfl (by kernel_rfl) (by kernel_rfl) (by kernel_rfl) (fun _ _ _ h => h) (Or.inl ⟨by rfl, fun _ _ => rfl⟩) hHeld ?_
  simp only [Act.put, List.setIfInBounds_toArray, List.set_cons_zero, List.set_cons_succ]
  refine wpAnyH_take (i := 13) (oi := ⟨some 45, .fieldAddr 38 (.tmp 11) 6, _, _, _, _⟩) (v := .pointer (some ⟨w3.heap.size, 64, none⟩)) rfl (by kernel_rfl) (by kernel_rfl) (by kernel_rfl) (fun _ _ _ h => h) (Or.inl ⟨by rfl, fun w _ => by go_simp⟩) hHeld ?_
  simp only [Act.put, List.setIfInBounds_toArray, List.set_cons_zero, List.set_cons_succ]
  refine wpAnyH_take (i := 14) (oi := ⟨some 46, .load 4 (.tmp 45), _, _, _, _⟩) (v := .bool false) rfl (by kernel_rfl) (by kernel_rfl) (by kernel_rfl) (fun _ _ _ h => h) (Or.inl ⟨by rfl, fun w hSw => by have e1 := hSw.2.2.2; clear hSw; go_simp⟩) hHeld ?_
  simp only [Act.put, List.setIfInBounds_toArray, List.set_cons_zero, List.set_cons_succ]
  refine wpAnyH_take (i := 15) (oi := ⟨some 47, .pick (.tmp 44) (.const (.bool true)) (.tmp 46), _, _, _, none⟩) (v := .bool false) rfl (by kernel_rfl) (by kernel_rfl) (by kernel_rfl) (fun _ _ _ h => h) (Or.inl ⟨by rfl, fun w _ => by go_simp⟩) hHeld ?_
  simp only [Act.put, List.setIfInBounds_toArray, List.set_cons_zero, List.set_cons_succ]
  refine wpAnyH_done (by kernel_rfl) ?_ _
  clear hHeld
  have e0 := b10.cell (j := 0) (v := .bool false) (congrArg (fun z => some (Value.bool z)) HDN.out)
  go_wp2_with (first
    | (go_at_call 11; refine (KS.out _ lw).mono ?_; rintro e wS ⟨rfl, l1⟩; replace lw := Later.trans_ lw l1; replace b3 := b3.keep l1; replace b10 := b10.keep l1; clear e0; have e62 := b10.cell (j := 62) (v := .slice none 0 0) (congrArg some HWV.out); have e63 := b10.cell (j := 63) (v := .slice none 0 0) (congrArg some HAV.out))
    | ((with_reducible refine wpList_load_atg (o := ⟨some 54, .load 26 (.tmp 53), _, _, _, _⟩) _ _ rfl w3.heap.size 1 30 38 s.eff x.cells _ ?_ ?_ ?_ (eff_ec HEC.out) Tryz.underlying26 ?_ (cpu_sz _) ?_); rfl; rfl; exact b10; rfl)
    | ((with_reducible refine wpList_load_g (o := ⟨some 55, .load 26 (.tmp 5), _, _, _, _⟩) _ _ rfl w.heap.size 26 x.cells _ ?_ ?_ ?_ Tryz.underlying26 ?_ (cpu_sz _) ?_); rfl; rfl; exact b3; rfl))
  go_ret
  exact ⟨rfl, lw⟩
theorem keep_any (x : Cpu) (A : Option Addr) (n c : Nat) (b : Wm.Bs) (p v : Int) (ok : Bool) (w : World) (hrv : x.Rv) (hc0 : 0 ≤ x.c0 ∧ x.c0 ≤ 4294967295) (hpcr : 0 ≤ x.pc ∧ x.pc ≤ 4294967295) (hc5 : Tm.isE x.c5) (hp : Tm.isE p) (hs : Sl w 128 A n (U b)) (hb : Wm.isBs b) (tab : Tab w) (hS : ∀ w', Tab w' → Calls Tryz.prog 11 #[] w' fun e w'' => e = .returned (.bool true) ∧ Later w' w'') :
    Calls Tryz.prog 7 #[.agg x.cells.toArray, .agg #[.slice A n c], .int .u32 p, .int .u32 v, .bool ok] w fun e w' => e = .returned (.bool true) ∧ Later w w' := by
  cases hR : RightB x n with
  | false => exact keep_r x A n c b p v ok w hrv hc0 hpcr hc5 hp hs hb tab hS hR
  | true =>
    cases hr : rdy x.hl x.wt p with
    | false => exact keep_idle x A n c b p v ok w hrv hc0 hpcr hc5 hp hs hb tab hS hR hr
    | true =>
      have hh : x.hl = false := by
        unfold rdy at hr
        simp only [Bool.and_eq_true, Bool.not_eq_true'] at hr
        exact hr.1
      exact keep_run x A n c b p v ok w hrv hc0 hpcr hc5 hp hs hb tab hS hR hr hh
end Go.Proofs.YtbhhhpglljkcpaaGreatDoor
