/-
  THE STATEMENT CoreKeepsValid: its walk.
-/
import Derived.Test.YtbhhhpglljkcpaaGreatDoorXs
import Derived.Test.YtbhhhpglljkcpaaGreatDoorYa
import Derived.Test.YtbhhhpglljkcpaaGreatDoorWza
namespace Go.Proofs.YtbhhhpglljkcpaaGreatDoor
open Go.RowKit Go.ChangeShapes Go.WideShapes Go.ChangeAt

set_option maxRecDepth 100000 in
set_option maxHeartbeats 16000000 in
theorem keep_r (x : Cpu) (A : Option Addr) (n c : Nat) (b : Wm.Bs) (p v : Int) (ok : Bool) (w : World) (_hrv : x.Rv) (_hc0 : 0 ≤ x.c0 ∧ x.c0 ≤ 4294967295) (_hpcr : 0 ≤ x.pc ∧ x.pc ≤ 4294967295) (_hc5 : Tm.isE x.c5) (_hp : Tm.isE p) (_hs : Sl w 128 A n (U b)) (_hb : Wm.isBs b) (tab : Tab w) (hS : ∀ w', Tab w' → Calls Tryz.prog 11 #[] w' fun e w'' => e = .returned (.bool true) ∧ Later w' w'') (hR : RightB x n = false) :
    Calls Tryz.prog 7 #[.agg x.cells.toArray, .agg #[.slice A n c], .int .u32 p, .int .u32 v, .bool ok] w fun e w' => e = .returned (.bool true) ∧ Later w w' := by
  have KS := Lib.hid fun w' (l : Later w w') => hS w' (tab.keep l)
  have KR := Lib.hid fun w' => cright_any x A n c w'
  have b3 := (Blk.new w 26 x.cells.toArray x.cells rfl).alloc (.cells #[.slice A n c] 29)
  have b4 := Blk.new' (w.alloc (.cells x.cells.toArray 26)) (w.heap.size + 1) 29 #[.slice A n c] [.slice A n c] (by simp) rfl
  have lw := (later1 w (.cells x.cells.toArray 26)).alloc (by simp) (.cells #[.slice A n c] 29)
  obtain ⟨u0, hu⟩ : ∃ u0, (w.alloc (.cells x.cells.toArray 26)).alloc (.cells #[.slice A n c] 29) = u0 := ⟨_, rfl⟩
  rw [hu] at b3 b4 lw
  rw [hR] at KR
  clear hS tab _hs _hb _hrv _hc0 _hpcr _hc5 _hp hR
  go_enter Tryz.func7, Tryz.ntmps7
  go_upto_region 1 with fail
  clear hu
  go_wp2_with (first
    | ((with_reducible refine wpList_load_blk (o := ⟨some 20, .load 26 (.tmp 5), _, _, _, none⟩) rfl _ _ rfl w.heap.size 26 x.cells _ ?_ ?_ Tryz.underlying26 rfl (cpu_sz _) ?_); rfl; exact b3)
    | ((with_reducible refine wpList_load_blk (o := ⟨some 21, .load 29 (.tmp 6), _, _, _, none⟩) rfl _ _ rfl (w.heap.size + 1) 29 [.slice A n c] _ ?_ ?_ Tryz.underlying29 rfl mem_sz ?_); rfl; exact b4)
    | (go_at_call 10; (with_reducible refine (KR.out _).mono ?_); rintro e w1 ⟨rfl, l1⟩; replace b3 := b3.keep l1; replace b4 := b4.keep l1; replace lw := Later.trans_ lw l1)
    | ((with_reducible refine wpList_load_blk (o := ⟨some 25, .load 26 (.tmp 5), _, _, _, none⟩) rfl _ _ rfl w.heap.size 26 x.cells _ ?_ ?_ Tryz.underlying26 rfl (cpu_sz _) ?_); rfl; exact b3)
    | ((with_reducible refine wpList_load_blk (o := ⟨some 26, .load 29 (.tmp 6), _, _, _, none⟩) rfl _ _ rfl (w.heap.size + 1) 29 [.slice A n c] _ ?_ ?_ Tryz.underlying29 rfl mem_sz ?_); rfl; exact b4)
    | (go_at_call 11; refine (KS.out _ lw).mono ?_; rintro e wS ⟨rfl, l1⟩; replace lw := Later.trans_ lw l1))
  go_ret
  exact ⟨rfl, lw⟩
set_option maxRecDepth 100000 in
set_option maxHeartbeats 16000000 in
theorem keep_run (x : Cpu) (A : Option Addr) (n c : Nat) (b : Wm.Bs) (p v : Int) (ok : Bool) (w : World) (hrv : x.Rv) (hc0 : 0 ≤ x.c0 ∧ x.c0 ≤ 4294967295) (hpcr : 0 ≤ x.pc ∧ x.pc ≤ 4294967295) (hc5 : Tm.isE x.c5) (hp : Tm.isE p) (hs : Sl w 128 A n (U b)) (hb : Wm.isBs b) (tab : Tab w) (hS : ∀ w', Tab w' → Calls Tryz.prog 11 #[] w' fun e w'' => e = .returned (.bool true) ∧ Later w' w'') (hR : RightB x n = true) (hr : rdy x.hl x.wt p = true) (hh : x.hl = false) :
    Calls Tryz.prog 7 #[.agg x.cells.toArray, .agg #[.slice A n c], .int .u32 p, .int .u32 v, .bool ok] w fun e w' => e = .returned (.bool true) ∧ Later w w' := by
  have KS := Lib.hid fun w' (l : Later w w') => hS w' (tab.keep l)
  have KR := Lib.hid fun w' => cright_any x A n c w'
  have b3 := (Blk.new w 26 x.cells.toArray x.cells rfl).alloc (.cells #[.slice A n c] 29)
  have b4 := Blk.new' (w.alloc (.cells x.cells.toArray 26)) (w.heap.size + 1) 29 #[.slice A n c] [.slice A n c] (by simp) rfl
  have lw := (later1 w (.cells x.cells.toArray 26)).alloc (by simp) (.cells #[.slice A n c] 29)
  obtain ⟨u0, hu⟩ : ∃ u0, (w.alloc (.cells x.cells.toArray 26)).alloc (.cells #[.slice A n c] 29) = u0 := ⟨_, rfl⟩
  rw [hu] at b3 b4 lw
  rw [hR] at KR
  unfold RightB at hR
  simp only [Bool.and_eq_true, decide_eq_true_eq] at hR
  have hk := Cm.of_okC hR.1
  have hcn := hR.2.1
  have hn1 : 1 ≤ n := hR.2.2.1
  have hn64 : n ≤ 64 := hR.2.2.2
  have hbl : b.length = n * 128 := by have := hs.1; rw [U_length] at this; exact this
  obtain ⟨hmath⟩ : Nonempty (0 = 0) := ⟨rfl⟩
  clear hmath
  have KP := Lib.hid fun w' (l : Later w w') => ks_step x A n c b p w' (hs.keep l) hb hbl hn1 hn64 hrv hc0 hpcr hc5 hp hk hcn (tab.keep l) hr hh
  have TB := Lib.hid fun w' (l : Later w w') => tab.keep l
  have HSL := Lib.hid fun w' (l : Later w w') => hs.keep l
  have HB := Lib.hid (And.intro hb (And.intro hn1 hn64))
  have HBL := Lib.hid hbl
  have HC5 := Lib.hid hc5
  have KY := Lib.hid fun w' => ready_any x p w' hp
  rw [hr] at KY
  have HXC := Lib.hid (And.intro hcn hk)
  clear hS tab hs hb hbl hn1 hn64 hrv hc0 hpcr hc5 hp hk hcn hr hh hR
  go_enter Tryz.func7, Tryz.ntmps7
  go_upto_region 1 with fail
  clear hu
  go_upto_region 4 with (first
    | ((with_reducible refine wpList_load_blk (o := ⟨some 20, .load 26 (.tmp 5), _, _, _, none⟩) rfl _ _ rfl w.heap.size 26 x.cells _ ?_ ?_ Tryz.underlying26 rfl (cpu_sz _) ?_); rfl; exact b3)
    | ((with_reducible refine wpList_load_blk (o := ⟨some 21, .load 29 (.tmp 6), _, _, _, none⟩) rfl _ _ rfl (w.heap.size + 1) 29 [.slice A n c] _ ?_ ?_ Tryz.underlying29 rfl mem_sz ?_); rfl; exact b4)
    | (go_at_call 10; (with_reducible refine (KR.out _).mono ?_); rintro e w1 ⟨rfl, l1⟩; replace b3 := b3.keep l1; replace b4 := b4.keep l1; replace lw := Later.trans_ lw l1)
    | ((with_reducible refine wpList_load_blk (o := ⟨some 25, .load 26 (.tmp 5), _, _, _, none⟩) rfl _ _ rfl w.heap.size 26 x.cells _ ?_ ?_ Tryz.underlying26 rfl (cpu_sz _) ?_); rfl; exact b3)
    | ((with_reducible refine wpList_load_blk (o := ⟨some 26, .load 29 (.tmp 6), _, _, _, none⟩) rfl _ _ rfl (w.heap.size + 1) 29 [.slice A n c] _ ?_ ?_ Tryz.underlying29 rfl mem_sz ?_); rfl; exact b4)
    | (go_at_call 13; refine (KP.out _ lw).mono ?_; rintro e w2 ⟨s0, AW0, AA0, cw0, ca0, ws0, ac0, rfl, f1, f2, f3, l1⟩; have F1 := Lib.hid f1; have F2 := Lib.hid f2; have F3 := Lib.hid f3; have lt := Later.trans_ lw l1; clear f1 f2 f3)
    | (go_at_call 15; refine (kv_ans s0 F1.out F2.out F3.out l1 HC5.out v ok (TB.out _ lt)).mono ?_; rintro e w3 ⟨s, AW, AA, cw, ca, ws, ac, rfl, g1, g2, g3, g4, hdn, hak, hold, hG, hM, l2⟩; clear F1 F2 F3 lt l1; replace b3 := b3.keep l2; replace b4 := b4.keep l2; replace lw := Later.trans_ lw l2; have G1 := Lib.hid g1; have G2 := Lib.hid g2; have HDN := Lib.hid hdn; have HAK := Lib.hid hak; have HOLD := Lib.hid hold; have HG := Lib.hid hG; have HM := Lib.hid hM; clear g1 g2 hdn hak hold hG hM l2)
    | ((with_reducible refine wpList_store_abs (o := ⟨none, .store 38 (.tmp 11) (.tmp 31), _, _, _, none⟩) rfl _ _ _ rfl w3.heap.size 38 zS.eff s.eff ?_ ?_ ?_ ?_ ?_ ?_ ?_); rfl; rfl; exact (Blk.new _ _ _ _ rfl); exact eff_sz _; rfl; exact (eff_one _ (by rw [G1.out]; rfl) (by rw [G2.out]; rfl)); intro u4 b10 ob; have l9 := Below.only (later1 w3 (.cells zS.eff.toArray 38)) ob (Nat.le_refl _); replace b3 := b3.keep l9; replace b4 := b4.keep l9; replace g3 := g3.keep l9; replace g4 := g4.keep l9; replace lw := Later.trans_ lw l9; clear ob l9))
  have KV := Lib.hid fun w' => valid_any s.ec w'
  rw [Cm.okC_of HG.out.1] at KV
  replace b3 := b3.drew
  replace b4 := b4.drew
  replace b10 := b10.drew
  replace g3 := g3.drew
  replace g4 := g4.drew
  replace lw := lw.drew
  refine wp_region_held_drew (S := fun w' => w'.cell? ⟨w3.heap.size, 0, none⟩ = some (.bool true) ∧ World.rangeAt w' w.heap.size 0 x.cells ∧ World.rangeAt w' w3.heap.size 1 s.ec.cells ∧ w'.cell? ⟨w3.heap.size, 64, none⟩ = some (.bool false)) (by kernel_rfl) ⟨b10.cell (j := 0) (congrArg (fun z => some (Value.bool z)) HDN.out), b3.range 0 30, b10.range 1 30, b10.cell (j := 64) (congrArg (fun z => some (Value.bool z)) HAK.out)⟩ (fun hHeld => ?_)
  refine wpAnyH_take (i := 0) (oi := ⟨some 32, .fieldAddr 38 (.tmp 11) 0, _, _, _, none⟩) (v := .pointer (some ⟨w3.heap.size, 0, none⟩)) rfl (by kernel_rfl) (by kernel_rfl) (by kernel_rfl) (fun _ _ _ h => h) (Or.inl ⟨by rfl, fun w _ => by go_simp⟩) hHeld ?_
  simp only [Act.put, List.setIfInBounds_toArray, List.set_cons_zero, List.set_cons_succ]
  refine wpAnyH_take (i := 1) (oi := ⟨some 33, .load 4 (.tmp 32), _, _, _, none⟩) (v := .bool true) rfl (by kernel_rfl) (by kernel_rfl) (by kernel_rfl) (fun _ _ _ h => h) (Or.inl ⟨by rfl, fun w hSw => by have e1 := hSw.1; clear hSw; go_simp⟩) hHeld ?_
  simp only [Act.put, List.setIfInBounds_toArray, List.set_cons_zero, List.set_cons_succ]
  refine wpAnyH_take (i := 2) (oi := ⟨some 34, .load 26 (.tmp 5), _, _, _, none⟩) (v := .agg x.cells.toArray) rfl (by kernel_rfl) (by kernel_rfl) (by kernel_rfl) (fun _ _ _ h => h) (yieldsIf_load_mid (by rfl) _ _ rfl _ _ rfl x.cells _ (fun w h => h.2.1) Tryz.underlying26 rfl (cpu_sz _)) hHeld ?_
  simp only [Act.put, List.setIfInBounds_toArray, List.set_cons_zero, List.set_cons_succ]
  refine wpAnyH_take (i := 3) (oi := ⟨some 35, .move (.tmp 2), _, _, _, none⟩) (v := .int .u32 p) rfl (by kernel_rfl) (by kernel_rfl) (by kernel_rfl) (fun _ _ _ h => h) (Or.inl ⟨by rfl, fun _ _ => rfl⟩) hHeld ?_
  simp only [Act.put, List.setIfInBounds_toArray, List.set_cons_zero, List.set_cons_succ]
  refine wpAnyH_ready (rs := [4]) (by kernel_rfl) (by simp) (AllReadyH.cons (o := ⟨some 36, .call { callee := .value (.func 20), args := #[.tmp 34, .tmp 35], argTypes := #[26, 22] }, _, _, _, none⟩) rfl (fun K' hK => ?_) (AllReadyH.nil))
  go_simp
  (with_reducible refine (KY.out _).mono ?_)
  rintro e w4 ⟨rfl, l1⟩
  replace b3 := b3.keep l1
  replace b4 := b4.keep l1
  replace b10 := b10.keep l1
  replace g3 := g3.keep l1
  replace g4 := g4.keep l1
  replace lw := Later.trans_ lw l1
  refine hK.out _ _ ⟨b10.cell (j := 0) (congrArg (fun z => some (Value.bool z)) HDN.out), b3.range 0 30, b10.range 1 30, b10.cell (j := 64) (congrArg (fun z => some (Value.bool z)) HAK.out)⟩ (fun hHeld => ?_)
  clear hK K'
  try simp only [Act.put, List.setIfInBounds_toArray, List.set_cons_zero, List.set_cons_succ]
  refine wpAnyH_take (i := 5) (oi := ⟨some 37, .binOp .neq 4 (.tmp 33) (.tmp 36) 4, _, _, _, none⟩) (v := .bool false) rfl (by kernel_rfl) (by kernel_rfl) (by kernel_rfl) (fun _ _ _ h => h) (Or.inl ⟨by rfl, fun w _ => by go_simp⟩) hHeld ?_
  simp only [Act.put, List.setIfInBounds_toArray, List.set_cons_zero, List.set_cons_succ]
  refine wpAnyH_take (i := 6) (oi := ⟨some 38, .move (.tmp 37), _, _, _, none⟩) (v := .bool false) rfl (by kernel_rfl) (by kernel_rfl) (by kernel_rfl) (fun _ _ _ h => h) (Or.inl ⟨by rfl, fun _ _ => rfl⟩) hHeld ?_
  simp only [Act.put, List.setIfInBounds_toArray, List.set_cons_zero, List.set_cons_succ]
  refine wpAnyH_take (i := 7) (oi := ⟨some 39, .fieldAddr 38 (.tmp 11) 1, _, _, _, _⟩) (v := .pointer (some ⟨w3.heap.size, 1, none⟩)) rfl (by kernel_rfl) (by kernel_rfl) (by kernel_rfl) (fun _ _ _ h => h) (Or.inl ⟨by rfl, fun w _ => by go_simp⟩) hHeld ?_
  simp only [Act.put, List.setIfInBounds_toArray, List.set_cons_zero, List.set_cons_succ]
  refine wpAnyH_take (i := 8) (oi := ⟨some 40, .load 26 (.tmp 39), _, _, _, _⟩) (v := .agg s.ec.cells.toArray) rfl (by kernel_rfl) (by kernel_rfl) (by kernel_rfl) (fun _ _ _ h => h) (yieldsIf_load_mid (by rfl) _ _ rfl _ _ rfl s.ec.cells _ (fun w h => h.2.2.1) Tryz.underlying26 rfl (cpu_sz _)) hHeld ?_
  simp only [Act.put, List.setIfInBounds_toArray, List.set_cons_zero, List.set_cons_succ]
  refine wpAnyH_ready (rs := [9]) (by kernel_rfl) (by simp) (AllReadyH.cons (o := ⟨some 41, .call { callee := .value (.func 21), args := #[.tmp 40], argTypes := #[26] }, _, _, _, _⟩) rfl (fun K' hK => ?_) (AllReadyH.nil))
  go_simp
  (with_reducible refine (KV.out _).mono ?_)
  rintro e w5 ⟨rfl, l1⟩
  replace b3 := b3.keep l1
  replace b4 := b4.keep l1
  replace b10 := b10.keep l1
  replace g3 := g3.keep l1
  replace g4 := g4.keep l1
  replace lw := Later.trans_ lw l1
  refine hK.out _ _ ⟨b10.cell (j := 0) (congrArg (fun z => some (Value.bool z)) HDN.out), b3.range 0 30, b10.range 1 30, b10.cell (j := 64) (congrArg (fun z => some (Value.bool z)) HAK.out)⟩ (fun hHeld => ?_)
  clear hK K'
  try simp only [Act.put, List.setIfInBounds_toArray, List.set_cons_zero, List.set_cons_succ]
  refine wpAnyH_take (i := 10) (oi := ⟨some 42, .unOp .not 4 (.tmp 41), _, _, _, _⟩) (v := .bool false) rfl (by kernel_rfl) (by kernel_rfl) (by kernel_rfl) (fun _ _ _ h => h) (Or.inl ⟨by rfl, fun w _ => by go_simp⟩) hHeld ?_
  simp only [Act.put, List.setIfInBounds_toArray, List.set_cons_zero, List.set_cons_succ]
  refine wpAnyH_take (i := 11) (oi := ⟨some 43, .pick (.tmp 38) (.const (.bool true)) (.tmp 42), _, _, _, none⟩) (v := .bool false) rfl (by kernel_rfl) (by kernel_rfl) (by kernel_rfl) (fun _ _ _ h => h) (Or.inl ⟨by rfl, fun w _ => by go_simp⟩) hHeld ?_
  simp only [Act.put, List.setIfInBounds_toArray, List.set_cons_zero, List.set_cons_succ]
  refine wpAnyH_take (i := 12) (oi := ⟨some 44, .move (.tmp 43), _, _, _, none⟩) (v := .bool false) rfl (by kernel_rfl) (by kernel_rfl) (by kernel_rfl) (fun _ _ _ h => h) (Or.inl ⟨by rfl, fun _ _ => rfl⟩) hHeld ?_
  simp only [Act.put, List.setIfInBounds_toArray, List.set_cons_zero, List.set_cons_succ]
  refine wpAnyH_take (i := 13) (oi := ⟨some 45, .fieldAddr 38 (.tmp 11) 6, _, _, _, _⟩) (v := .pointer (some ⟨w3.heap.size, 64, none⟩)) rfl (by kernel_rfl) (by kernel_rfl) (by kernel_rfl) (fun _ _ _ h => h) (Or.inl ⟨by rfl, fun w _ => by go_simp⟩) hHeld ?_
  simp only [Act.put, List.setIfInBounds_toArray, List.set_cons_zero, List.set_cons_succ]
  refine wpAnyH_take (i := 14) (oi := ⟨some 46, .load 4 (.tmp 45), _, _, _, _⟩) (v := .bool false) rfl (by kernel_rfl) (by kernel_rfl) (by kernel_rfl) (fun _ _ _ h => h) (Or.inl ⟨by rfl, fun w hSw => by have e1 := hSw.2.2.2; clear hSw; go_simp⟩) hHeld ?_
  simp only [Act.put, List.setIfInBounds_toArray, List.set_cons_zero, List.set_cons_succ]
  refine wpAnyH_take (i := 15) (oi := ⟨some 47, .pick (.tmp 44) (.const (.bool true)) (.tmp 46), _, _, _, none⟩) (v := .bool false) rfl (by kernel_rfl) (by kernel_rfl) (by kernel_rfl) (fun _ _ _ h => h) (Or.inl ⟨by rfl, fun w _ => by go_simp⟩) hHeld ?_
  simp only [Act.put, List.setIfInBounds_toArray, List.set_cons_zero, List.set_cons_succ]
  refine wpAnyH_done (by kernel_rfl) ?_ _
  clear hHeld
  have e0 := b10.cell (j := 0) (v := .bool true) (congrArg (fun z => some (Value.bool z)) HDN.out)
  go_upto_region 8 with fail
  clear e0 KV KY
  have HW := Lib.hid (fun (y : Int × Int × Int) (hy : y ∈ ws) => kvIsW HM.out.1 HM.out.2.1 HBL.out HB.out.2.2 HM.out.2.2.2.1 y hy)
  have HAP := Lib.hid (kvSome HM.out.2.2.1)
  have e62 := b10.cell (j := 62) (v := .slice AW ws.length cw) (congrArg some G1.out)
  go_upto_region 9 with (first
    | ((with_reducible refine wpList_load_blk (o := ⟨some 71, .load 29 (.tmp 6), _, _, _, none⟩) rfl _ _ rfl (w.heap.size + 1) 29 [.slice A n c] _ ?_ ?_ Tryz.underlying29 rfl mem_sz ?_); rfl; exact b4)
    | (go_at_call 22; clear e62; have hap := apply_any A n c ws.length cw AW ws b _ (HSL.out _ lw) HB.out.1 HB.out.2.1 HB.out.2.2 g3 rfl HW.out (by have := HM.out.2.2.2.2.1; omega); rw [HAP.out] at hap; refine hap.mono ?_; rintro e w6 ⟨g, c', rfl, _, _, _, _, l1⟩; clear hap; replace b3 := b3.keep l1; replace b4 := b4.keep l1; replace b10 := b10.keep l1; replace g3 := g3.keep l1; replace g4 := g4.keep l1; replace lw := Later.trans_ lw l1))
  obtain ⟨u7, hu7⟩ : ∃ u7, u7 = w6.alloc (.cells #[.slice (some ⟨g, 0, none⟩) n c'] 29) := ⟨_, rfl⟩
  refine wp_eq_world (u := u7) hu7 ?_
  have l9 := later1 w6 (.cells #[.slice (some ⟨g, 0, none⟩) n c'] 29)
  rw [← hu7] at l9
  replace b3 := b3.keep l9
  replace b4 := b4.keep l9
  replace b10 := b10.keep l9
  replace g3 := g3.keep l9
  replace g4 := g4.keep l9
  replace lw := Later.trans_ lw l9
  clear hu7 l9 HAP HW
  go_wp2
  go_loopw [14, 15] (fun ij ik wr => ∃ k j : Nat, k ≤ ac.length ∧ j = (Cm.sts (ac.take k)).length ∧ ij = .int .i64 (j : Int) ∧ ik = .int .i64 (k : Int) ∧ Blk wr w.heap.size 26 x.cells ∧ Blk wr (w.heap.size + 1) 29 [.slice A n c] ∧ Blk wr w3.heap.size 38 s.eff ∧ Sl wr 3 AW ws.length (Ws ws) ∧ Sl wr 3 AA ac.length (Acs ac) ∧ Later w wr) (fun _ ik _ => ac.length - (intOf ik).toNat)
  case atStart => exact ⟨0, 0, Nat.zero_le _, rfl, rfl, rfl, b3, b4, b10, g3, g4, lw⟩
  case round =>
    clear b3 b4 b10 g3 g4 lw
    rename_i wr
    obtain ⟨k, j, hk, hj, rfl, rfl, b3, b4, b10, g3, g4, lw⟩ := hrel
    have hM := HM.out
    by_cases hlt : k < ac.length
    · have hkn : (k : Int) < (ac.length : Int) := by omega
      have hk9 : (k : Int) < 9 := by have := hM.2.2.2.2.2; omega
      have hk0 : (0 : Int) ≤ k := by omega
      obtain ⟨ad, hAd⟩ := g4.addr (by omega)
      subst hAd
      have hC := g4.acc hlt rfl
      have hth := hM.2.1 _ (List.getElem_mem hlt)
      have hsp := Cm.sts_step ac hlt
      have hsa := fun h => Cm.sts_at hM.1 hlt h
      rw [HBL.out] at hth
      have hrg : -9223372036854775808 ≤ ac[k].1 ∧ ac[k].1 ≤ 9223372036854775807 := by have hn := HB.out.2.2; unfold Mm.There at hth; omega
      have KL := Lib.hid fun w' (l : Later w w') => load_any A n c ac[k].1 ac[k].2.1 b w' (HSL.out _ l) HB.out.1 HB.out.2.1 HB.out.2.2 hrg
      rw [decide_eq_true hth] at KL
      obtain ⟨a, ha⟩ : ∃ a, a = ac[k].1 := ⟨_, rfl⟩
      obtain ⟨sz, hsz⟩ : ∃ z, z = ac[k].2.1 := ⟨_, rfl⟩
      rw [← ha, ← hsz] at KL hC hsa
      cases hst : ac[k].2.2 with
      | true =>
        rw [hst] at hC hsp
        rw [if_pos rfl] at hsp
        have HC := Lib.hid hC
        obtain ⟨hjl, je1, je2⟩ : ∃ hjl : j < ws.length, ws[j].1 = a ∧ ws[j].2.1 = sz := by subst hj; exact hsa hst
        have HJ1 := Lib.hid (show j + 1 = (Cm.sts (ac.take (k + 1))).length by rw [hsp, List.length_append, ← hj]; rfl)
        have hjn : (j : Int) < (ws.length : Int) := by omega
        have hj3 : (j : Int) < 3 := by have := hM.2.2.2.2.1; omega
        have hj0 : (0 : Int) ≤ j := by omega
        have d18 : decide ((ws.length : Int) ≤ (j : Int)) = false := decide_eq_false (by omega)
        clear hM hth hsp hsa hrg ha hsz hst hC hj
        have e63 := b10.cell (j := 63) (v := .slice (some ad) ac.length ca) (congrArg some G2.out)
        go_upto_region 14 with (first
          | ((with_reducible refine wpList_load_addr (o := ⟨some 88, .load 53 (.tmp 87), _, _, _, none⟩) rfl _ _ rfl (ad.add (k * 3)) [.int .i64 a, .int .i64 sz, .bool true] _ ?_ HC.out Tryz.underlying53 rfl (ac_sz _ _ _) ?_); rfl))
        obtain ⟨u8, hu8⟩ : ∃ u8, u8 = wr.alloc (.cells #[.int .i64 a, .int .i64 sz, .bool true] 53) := ⟨_, rfl⟩
        refine wp_eq_world (u := u8) hu8 ?_
        have l9 := later1 wr (.cells #[.int .i64 a, .int .i64 sz, .bool true] 53)
        have b16 := Blk.new wr 53 #[.int .i64 a, .int .i64 sz, .bool true] [.int .i64 a, .int .i64 sz, .bool true] rfl
        rw [← hu8] at l9 b16
        clear e63
        replace b3 := b3.keep l9
        replace b4 := b4.keep l9
        replace b10 := b10.keep l9
        replace g3 := g3.keep l9
        replace g4 := g4.keep l9
        replace lw := Later.trans_ lw l9
        clear hu8 l9
        have c0 := b16.cell (j := 0) (v := .int .i64 a) rfl
        have c1 := b16.cell (j := 1) (v := .int .i64 sz) rfl
        have c2 := b16.cell (j := 2) (v := .bool true) rfl
        go_upto_region 18 with (first
          | ((with_reducible refine wpList_load_blk (o := ⟨some 90, .load 29 (.tmp 6), _, _, _, none⟩) rfl _ _ rfl (w.heap.size + 1) 29 [.slice A n c] _ ?_ ?_ Tryz.underlying29 rfl mem_sz ?_); rfl; exact b4)
          | (go_at_call 23; clear c0 c1 c2; (with_reducible refine (KL.out _ lw).mono ?_); rintro e w8 ⟨rfl, l1⟩; replace b3 := b3.keep l1; replace b4 := b4.keep l1; replace b10 := b10.keep l1; replace b16 := b16.keep l1; replace g3 := g3.keep l1; replace g4 := g4.keep l1; replace lw := Later.trans_ lw l1; have c2 := b16.cell (j := 2) (v := .bool true) rfl))
        clear c2
        obtain ⟨ad2, hAd2⟩ := g3.addr (by omega)
        subst hAd2
        have hwr := g3.write hjl rfl
        have q0 := hwr 0 _ rfl
        have q1 := hwr 1 _ rfl
        rw [je1] at q0
        rw [je2] at q1
        have q0a := ad_add0 (ad2.add (j * 3))
        rw [q0a] at q0
        have q1a := ad_add1 (ad2.add (j * 3))
        rw [q1a] at q1
        clear q0a q1a hwr
        replace b3 := b3.drew
        replace b4 := b4.drew
        replace b10 := b10.drew
        replace b16 := b16.drew
        replace g3 := g3.drew
        replace g4 := g4.drew
        replace lw := lw.drew
        refine wp_region_held_drew (S := fun w' => w'.cell? ⟨w3.heap.size, 62, none⟩ = some (.slice (some ad2) ws.length cw) ∧ w'.cell? (ad2.add (j * 3)) = some (.int .i64 a) ∧ w'.cell? ⟨wr.heap.size, 0, none⟩ = some (.int .i64 a) ∧ w'.cell? ⟨(ad2.add (j * 3)).block, (ad2.add (j * 3)).off + 1, none⟩ = some (.int .i64 sz) ∧ w'.cell? ⟨wr.heap.size, 1, none⟩ = some (.int .i64 sz)) (by kernel_rfl) ⟨b10.cell (j := 62) (congrArg some G1.out), q0, b16.cell (j := 0) rfl, q1, b16.cell (j := 1) rfl⟩ (fun hHeld => ?_)
        refine wpAnyH_take (i := 0) (oi := ⟨some 102, .move (.tmp 14), _, _, _, none⟩) (v := .int .i64 (j : Int)) rfl (by kernel_rfl) (by kernel_rfl) (by kernel_rfl) (fun _ _ _ h => h) (Or.inl ⟨by rfl, fun _ _ => rfl⟩) hHeld ?_
        simp only [Act.put, List.setIfInBounds_toArray, List.set_cons_zero, List.set_cons_succ]
        refine wpAnyH_take (i := 1) (oi := ⟨some 103, .fieldAddr 38 (.tmp 11) 4, _, _, _, none⟩) (v := .pointer (some ⟨w3.heap.size, 62, none⟩)) rfl (by kernel_rfl) (by kernel_rfl) (by kernel_rfl) (fun _ _ _ h => h) (Or.inl ⟨by rfl, fun w _ => by go_simp⟩) hHeld ?_
        simp only [Act.put, List.setIfInBounds_toArray, List.set_cons_zero, List.set_cons_succ]
        refine wpAnyH_take (i := 2) (oi := ⟨some 104, .load 33 (.tmp 103), _, _, _, none⟩) (v := .slice (some ad2) ws.length cw) rfl (by kernel_rfl) (by kernel_rfl) (by kernel_rfl) (fun _ _ _ h => h) (Or.inl ⟨by rfl, fun w hSw => by have e1 := hSw.1; clear hSw; go_simp⟩) hHeld ?_
        simp only [Act.put, List.setIfInBounds_toArray, List.set_cons_zero, List.set_cons_succ]
        refine wpAnyH_take (i := 3) (oi := ⟨some 105, .call { callee := .builtin .len, args := #[.tmp 104], argTypes := #[33] }, _, _, _, none⟩) (v := .int .i64 (ws.length : Int)) rfl (by kernel_rfl) (by kernel_rfl) (by kernel_rfl) (fun _ _ _ h => h) (Or.inl ⟨by rfl, fun w _ => by go_simp⟩) hHeld ?_
        simp only [Act.put, List.setIfInBounds_toArray, List.set_cons_zero, List.set_cons_succ]
        refine wpAnyH_take (i := 4) (oi := ⟨some 106, .binOp .geq 3 (.tmp 102) (.tmp 105) 3, _, _, _, none⟩) (v := .bool false) rfl (by kernel_rfl) (by kernel_rfl) (by kernel_rfl) (fun _ _ _ h => h) (Or.inl ⟨by rfl, fun w _ => by go_simp⟩) hHeld ?_
        simp only [Act.put, List.setIfInBounds_toArray, List.set_cons_zero, List.set_cons_succ]
        refine wpAnyH_take (i := 5) (oi := ⟨some 107, .move (.tmp 106), _, _, _, none⟩) (v := .bool false) rfl (by kernel_rfl) (by kernel_rfl) (by kernel_rfl) (fun _ _ _ h => h) (Or.inl ⟨by rfl, fun _ _ => rfl⟩) hHeld ?_
        simp only [Act.put, List.setIfInBounds_toArray, List.set_cons_zero, List.set_cons_succ]
        refine wpAnyH_take (i := 6) (oi := ⟨some 108, .fieldAddr 38 (.tmp 11) 4, _, _, _, _⟩) (v := .pointer (some ⟨w3.heap.size, 62, none⟩)) rfl (by kernel_rfl) (by kernel_rfl) (by kernel_rfl) (fun _ _ _ h => h) (Or.inl ⟨by rfl, fun w _ => by go_simp⟩) hHeld ?_
        simp only [Act.put, List.setIfInBounds_toArray, List.set_cons_zero, List.set_cons_succ]
        refine wpAnyH_take (i := 7) (oi := ⟨some 109, .load 33 (.tmp 108), _, _, _, _⟩) (v := .slice (some ad2) ws.length cw) rfl (by kernel_rfl) (by kernel_rfl) (by kernel_rfl) (fun _ _ _ h => h) (Or.inl ⟨by rfl, fun w hSw => by have e1 := hSw.1; clear hSw; go_simp⟩) hHeld ?_
        simp only [Act.put, List.setIfInBounds_toArray, List.set_cons_zero, List.set_cons_succ]
        refine wpAnyH_take (i := 8) (oi := ⟨some 110, .move (.tmp 14), _, _, _, _⟩) (v := .int .i64 (j : Int)) rfl (by kernel_rfl) (by kernel_rfl) (by kernel_rfl) (fun _ _ _ h => h) (Or.inl ⟨by rfl, fun _ _ => rfl⟩) hHeld ?_
        simp only [Act.put, List.setIfInBounds_toArray, List.set_cons_zero, List.set_cons_succ]
        refine wpAnyH_take (i := 9) (oi := ⟨some 111, .indexAddr 33 (.tmp 109) (.tmp 110), _, _, _, _⟩) (v := .pointer (some (ad2.add (j * 3)))) rfl (by kernel_rfl) (by kernel_rfl) (by kernel_rfl) (fun _ _ _ h => h) (Or.inl ⟨by rfl, fun w _ => by go_simp⟩) hHeld ?_
        simp only [Act.put, List.setIfInBounds_toArray, List.set_cons_zero, List.set_cons_succ]
        refine wpAnyH_take (i := 10) (oi := ⟨some 112, .fieldAddr 64 (.tmp 111) 0, _, _, _, _⟩) (v := .pointer (some (ad2.add (j * 3)))) rfl (by kernel_rfl) (by kernel_rfl) (by kernel_rfl) (fun _ _ _ h => h) (Or.inl ⟨by rfl, fun w _ => by go_simp⟩) hHeld ?_
        simp only [Act.put, List.setIfInBounds_toArray, List.set_cons_zero, List.set_cons_succ]
        refine wpAnyH_take (i := 11) (oi := ⟨some 113, .load 3 (.tmp 112), _, _, _, _⟩) (v := .int .i64 a) rfl (by kernel_rfl) (by kernel_rfl) (by kernel_rfl) (fun _ _ _ h => h) (Or.inl ⟨by rfl, fun w hSw => by have e1 := hSw.2.1; clear hSw; go_simp⟩) hHeld ?_
        simp only [Act.put, List.setIfInBounds_toArray, List.set_cons_zero, List.set_cons_succ]
        refine wpAnyH_take (i := 12) (oi := ⟨some 114, .fieldAddr 53 (.tmp 16) 0, _, _, _, _⟩) (v := .pointer (some ⟨wr.heap.size, 0, none⟩)) rfl (by kernel_rfl) (by kernel_rfl) (by kernel_rfl) (fun _ _ _ h => h) (Or.inl ⟨by rfl, fun w _ => by go_simp⟩) hHeld ?_
        simp only [Act.put, List.setIfInBounds_toArray, List.set_cons_zero, List.set_cons_succ]
        refine wpAnyH_take (i := 13) (oi := ⟨some 115, .load 3 (.tmp 114), _, _, _, _⟩) (v := .int .i64 a) rfl (by kernel_rfl) (by kernel_rfl) (by kernel_rfl) (fun _ _ _ h => h) (Or.inl ⟨by rfl, fun w hSw => by have e1 := hSw.2.2.1; clear hSw; go_simp⟩) hHeld ?_
        simp only [Act.put, List.setIfInBounds_toArray, List.set_cons_zero, List.set_cons_succ]
        refine wpAnyH_take (i := 14) (oi := ⟨some 116, .binOp .neq 3 (.tmp 113) (.tmp 115) 3, _, _, _, _⟩) (v := .bool false) rfl (by kernel_rfl) (by kernel_rfl) (by kernel_rfl) (fun _ _ _ h => h) (Or.inl ⟨by rfl, fun w _ => by go_simp⟩) hHeld ?_
        simp only [Act.put, List.setIfInBounds_toArray, List.set_cons_zero, List.set_cons_succ]
        refine wpAnyH_take (i := 15) (oi := ⟨some 117, .pick (.tmp 107) (.const (.bool true)) (.tmp 116), _, _, _, none⟩) (v := .bool false) rfl (by kernel_rfl) (by kernel_rfl) (by kernel_rfl) (fun _ _ _ h => h) (Or.inl ⟨by rfl, fun w _ => by go_simp⟩) hHeld ?_
        simp only [Act.put, List.setIfInBounds_toArray, List.set_cons_zero, List.set_cons_succ]
        refine wpAnyH_take (i := 16) (oi := ⟨some 118, .move (.tmp 117), _, _, _, none⟩) (v := .bool false) rfl (by kernel_rfl) (by kernel_rfl) (by kernel_rfl) (fun _ _ _ h => h) (Or.inl ⟨by rfl, fun _ _ => rfl⟩) hHeld ?_
        simp only [Act.put, List.setIfInBounds_toArray, List.set_cons_zero, List.set_cons_succ]
        refine wpAnyH_take (i := 17) (oi := ⟨some 119, .fieldAddr 38 (.tmp 11) 4, _, _, _, _⟩) (v := .pointer (some ⟨w3.heap.size, 62, none⟩)) rfl (by kernel_rfl) (by kernel_rfl) (by kernel_rfl) (fun _ _ _ h => h) (Or.inl ⟨by rfl, fun w _ => by go_simp⟩) hHeld ?_
        simp only [Act.put, List.setIfInBounds_toArray, List.set_cons_zero, List.set_cons_succ]
        refine wpAnyH_take (i := 18) (oi := ⟨some 120, .load 33 (.tmp 119), _, _, _, _⟩) (v := .slice (some ad2) ws.length cw) rfl (by kernel_rfl) (by kernel_rfl) (by kernel_rfl) (fun _ _ _ h => h) (Or.inl ⟨by rfl, fun w hSw => by have e1 := hSw.1; clear hSw; go_simp⟩) hHeld ?_
        simp only [Act.put, List.setIfInBounds_toArray, List.set_cons_zero, List.set_cons_succ]
        refine wpAnyH_take (i := 19) (oi := ⟨some 121, .move (.tmp 14), _, _, _, _⟩) (v := .int .i64 (j : Int)) rfl (by kernel_rfl) (by kernel_rfl) (by kernel_rfl) (fun _ _ _ h => h) (Or.inl ⟨by rfl, fun _ _ => rfl⟩) hHeld ?_
        simp only [Act.put, List.setIfInBounds_toArray, List.set_cons_zero, List.set_cons_succ]
        refine wpAnyH_take (i := 20) (oi := ⟨some 122, .indexAddr 33 (.tmp 120) (.tmp 121), _, _, _, _⟩) (v := .pointer (some (ad2.add (j * 3)))) rfl (by kernel_rfl) (by kernel_rfl) (by kernel_rfl) (fun _ _ _ h => h) (Or.inl ⟨by rfl, fun w _ => by go_simp⟩) hHeld ?_
        simp only [Act.put, List.setIfInBounds_toArray, List.set_cons_zero, List.set_cons_succ]
        refine wpAnyH_take (i := 21) (oi := ⟨some 123, .fieldAddr 64 (.tmp 122) 1, _, _, _, _⟩) (v := .pointer (some ⟨(ad2.add (j * 3)).block, (ad2.add (j * 3)).off + 1, none⟩)) rfl (by kernel_rfl) (by kernel_rfl) (by kernel_rfl) (fun _ _ _ h => h) (Or.inl ⟨by rfl, fun w _ => by go_simp⟩) hHeld ?_
        simp only [Act.put, List.setIfInBounds_toArray, List.set_cons_zero, List.set_cons_succ]
        refine wpAnyH_take (i := 22) (oi := ⟨some 124, .load 3 (.tmp 123), _, _, _, _⟩) (v := .int .i64 sz) rfl (by kernel_rfl) (by kernel_rfl) (by kernel_rfl) (fun _ _ _ h => h) (Or.inl ⟨by rfl, fun w hSw => by have e1 := hSw.2.2.2.1; clear hSw; go_simp⟩) hHeld ?_
        simp only [Act.put, List.setIfInBounds_toArray, List.set_cons_zero, List.set_cons_succ]
        refine wpAnyH_take (i := 23) (oi := ⟨some 125, .fieldAddr 53 (.tmp 16) 1, _, _, _, _⟩) (v := .pointer (some ⟨wr.heap.size, 1, none⟩)) rfl (by kernel_rfl) (by kernel_rfl) (by kernel_rfl) (fun _ _ _ h => h) (Or.inl ⟨by rfl, fun w _ => by go_simp⟩) hHeld ?_
        simp only [Act.put, List.setIfInBounds_toArray, List.set_cons_zero, List.set_cons_succ]
        refine wpAnyH_take (i := 24) (oi := ⟨some 126, .load 3 (.tmp 125), _, _, _, _⟩) (v := .int .i64 sz) rfl (by kernel_rfl) (by kernel_rfl) (by kernel_rfl) (fun _ _ _ h => h) (Or.inl ⟨by rfl, fun w hSw => by have e1 := hSw.2.2.2.2; clear hSw; go_simp⟩) hHeld ?_
        simp only [Act.put, List.setIfInBounds_toArray, List.set_cons_zero, List.set_cons_succ]
        refine wpAnyH_take (i := 25) (oi := ⟨some 127, .binOp .neq 3 (.tmp 124) (.tmp 126) 3, _, _, _, _⟩) (v := .bool false) rfl (by kernel_rfl) (by kernel_rfl) (by kernel_rfl) (fun _ _ _ h => h) (Or.inl ⟨by rfl, fun w _ => by go_simp⟩) hHeld ?_
        simp only [Act.put, List.setIfInBounds_toArray, List.set_cons_zero, List.set_cons_succ]
        refine wpAnyH_take (i := 26) (oi := ⟨some 128, .pick (.tmp 118) (.const (.bool true)) (.tmp 127), _, _, _, none⟩) (v := .bool false) rfl (by kernel_rfl) (by kernel_rfl) (by kernel_rfl) (fun _ _ _ h => h) (Or.inl ⟨by rfl, fun w _ => by go_simp⟩) hHeld ?_
        simp only [Act.put, List.setIfInBounds_toArray, List.set_cons_zero, List.set_cons_succ]
        refine wpAnyH_done (by kernel_rfl) ?_ _
        clear hHeld
        go_wp2
        go_roundw
        case rel => exact ⟨k + 1, j + 1, by omega, HJ1.out, by go_num, by go_num, b3, b4, b10, g3, g4, lw⟩
        case measure => simp [intOf]; omega
      | false =>
        rw [hst] at hC hsp
        rw [if_neg (by decide), List.append_nil] at hsp
        have HC := Lib.hid hC
        have HJ1 := Lib.hid (show j = (Cm.sts (ac.take (k + 1))).length by rw [hsp, ← hj])
        clear hM hth hsp hsa hrg ha hsz hst hC hj
        have e63 := b10.cell (j := 63) (v := .slice (some ad) ac.length ca) (congrArg some G2.out)
        go_upto_region 14 with (first
          | ((with_reducible refine wpList_load_addr (o := ⟨some 88, .load 53 (.tmp 87), _, _, _, none⟩) rfl _ _ rfl (ad.add (k * 3)) [.int .i64 a, .int .i64 sz, .bool false] _ ?_ HC.out Tryz.underlying53 rfl (ac_sz _ _ _) ?_); rfl))
        obtain ⟨u8, hu8⟩ : ∃ u8, u8 = wr.alloc (.cells #[.int .i64 a, .int .i64 sz, .bool false] 53) := ⟨_, rfl⟩
        refine wp_eq_world (u := u8) hu8 ?_
        have l9 := later1 wr (.cells #[.int .i64 a, .int .i64 sz, .bool false] 53)
        have b16 := Blk.new wr 53 #[.int .i64 a, .int .i64 sz, .bool false] [.int .i64 a, .int .i64 sz, .bool false] rfl
        rw [← hu8] at l9 b16
        clear e63
        replace b3 := b3.keep l9
        replace b4 := b4.keep l9
        replace b10 := b10.keep l9
        replace g3 := g3.keep l9
        replace g4 := g4.keep l9
        replace lw := Later.trans_ lw l9
        clear hu8 l9
        have c0 := b16.cell (j := 0) (v := .int .i64 a) rfl
        have c1 := b16.cell (j := 1) (v := .int .i64 sz) rfl
        have c2 := b16.cell (j := 2) (v := .bool false) rfl
        go_wp2_with (first
          | ((with_reducible refine wpList_load_blk (o := ⟨some 90, .load 29 (.tmp 6), _, _, _, none⟩) rfl _ _ rfl (w.heap.size + 1) 29 [.slice A n c] _ ?_ ?_ Tryz.underlying29 rfl mem_sz ?_); rfl; exact b4)
          | (go_at_call 23; clear c0 c1 c2; (with_reducible refine (KL.out _ lw).mono ?_); rintro e w8 ⟨rfl, l1⟩; replace b3 := b3.keep l1; replace b4 := b4.keep l1; replace b10 := b10.keep l1; replace b16 := b16.keep l1; replace g3 := g3.keep l1; replace g4 := g4.keep l1; replace lw := Later.trans_ lw l1; have c2 := b16.cell (j := 2) (v := .bool false) rfl))
        go_roundw
        case rel => exact ⟨k + 1, j, by omega, HJ1.out, rfl, by go_num, b3, b4, b10, g3, g4, lw⟩
        case measure => simp [intOf]; omega
    · obtain rfl : k = ac.length := by omega
      have hj2 : j = ws.length := by rw [hj, List.take_length, hM.1]; unfold Cm.wts; rw [List.length_map]
      subst hj2
      clear hj hlt hk hM
      have hG := HG.out
      have hcn1 := hG.2.1
      have wcn : IntKind.i64.wrap (x.cn + 1) = x.cn + 1 := by rw [IntKind.wrap_i64]; have := HXC.out.1; have := HXC.out.2.2.2.2.2.1; omega
      have heq := cpu_same x
      have e62 := b10.cell (j := 62) (v := .slice AW ws.length cw) (congrArg some G1.out)
      have e63 := b10.cell (j := 63) (v := .slice AA ac.length ca) (congrArg some G2.out)
      have e30 := b10.cell (j := 30) (v := .int .i64 (x.cn + 1)) (congrArg (fun z => some (Value.int .i64 z)) hcn1)
      have x29 := b3.cell (j := 29) (v := .int .i64 x.cn) rfl
      obtain ⟨t, ht⟩ : ∃ t, s.tr = t := ⟨_, rfl⟩
      rw [ht] at hG
      have HT := Lib.hid ht
      clear ht hcn1
      by_cases htr : t = 0
      · have d24 : (t == 0) = true := by simpa using htr
        clear hG
        go_upto_region 23 with (first
          | ((with_reducible refine wpList_load_atg (o := ⟨some 151, .load 26 (.tmp 150), _, _, _, _⟩) _ _ rfl w3.heap.size 31 30 38 s.eff x.cells _ ?_ ?_ ?_ (eff_old HOLD.out) Tryz.underlying26 ?_ (cpu_sz _) ?_); rfl; rfl; exact b10; rfl)
          | ((with_reducible refine wpList_load_g (o := ⟨some 152, .load 26 (.tmp 5), _, _, _, _⟩) _ _ rfl w.heap.size 26 x.cells _ ?_ ?_ ?_ Tryz.underlying26 ?_ (cpu_sz _) ?_); rfl; rfl; exact b3; rfl))
        clear e62 e63 e30 x29 heq wcn
        go_upto_region 24 with (first
          | ((refine wpList_load_at (o := ⟨some 156, .load 26 (.tmp 155), _, _, _, none⟩) rfl _ _ rfl w3.heap.size 1 30 38 s.eff s.ec.cells _ ?_ b10 rfl Tryz.underlying26 rfl (cpu_sz _) ?_); rfl)
          | ((with_reducible refine wpList_store_abs (o := ⟨none, .store 26 (.tmp 19) (.tmp 156), _, _, _, none⟩) rfl _ _ _ rfl wr.heap.size 26 zC.cells s.ec.cells ?_ ?_ ?_ ?_ ?_ ?_ ?_); rfl; rfl; exact (Blk.new _ _ _ _ rfl); exact (cpu_sz _); rfl; exact (cpu_one _); intro u9 b19 ob; have l9 := Below.only (later1 wr (.cells zC.cells.toArray 26)) ob (Nat.le_refl _); replace b3 := b3.keep l9; replace b4 := b4.keep l9; replace b10 := b10.keep l9; replace g3 := g3.keep l9; replace g4 := g4.keep l9; replace lw := Later.trans_ lw l9; clear ob l9))
        have e70 := b10.cell (j := 70) (v := .int .i64 t) (congrArg (fun z => some (Value.int .i64 z)) HT.out)
        go_wp2_with (first
          | (go_at_call 11; refine (KS.out _ lw).mono ?_; rintro e wS ⟨rfl, l1⟩; replace lw := Later.trans_ lw l1))
        go_ret
        exact ⟨rfl, lw⟩
      · have d24 : (t == 0) = false := by simpa using htr
        obtain ⟨hc1, hc2, hc3, hc4, on, hc5⟩ := hG.2.2.2 htr
        have wtr : IntKind.u32.wrap t = t := by rw [IntKind.wrap_u32]; have := hG.2.2.1; omega
        obtain ⟨q4, hq4⟩ : ∃ z, z = b32 x.u 4 := ⟨_, rfl⟩
        obtain ⟨q5, hq5⟩ : ∃ z, z = b32 on 2 + b32 x.u 4 := ⟨_, rfl⟩
        have hbb := bits_q on x.u
        have hne := b32_ne x.u
        rw [← hq5, ← hq4] at hbb
        rw [← hq4] at hne
        rw [← hq5] at hc5
        have hb1 := hbb.1
        have hb4 := hbb.2
        have HC1 := Lib.hid hc1
        have HC2 := Lib.hid hc2
        have HC3 := Lib.hid hc3
        have HC4 := Lib.hid hc4
        have HC5x := Lib.hid hc5
        have heqr := regs_same x
        clear hG hc1 hc2 hc3 hc4 hc5 hbb hq4 hq5
        go_upto_region 23 with (first
          | ((with_reducible refine wpList_load_atg (o := ⟨some 151, .load 26 (.tmp 150), _, _, _, _⟩) _ _ rfl w3.heap.size 31 30 38 s.eff x.cells _ ?_ ?_ ?_ (eff_old HOLD.out) Tryz.underlying26 ?_ (cpu_sz _) ?_); rfl; rfl; exact b10; rfl)
          | ((with_reducible refine wpList_load_g (o := ⟨some 152, .load 26 (.tmp 5), _, _, _, _⟩) _ _ rfl w.heap.size 26 x.cells _ ?_ ?_ ?_ Tryz.underlying26 ?_ (cpu_sz _) ?_); rfl; rfl; exact b3; rfl))
        clear e62 e63 e30 x29 heq wcn
        go_upto_region 24 with (first
          | ((refine wpList_load_at (o := ⟨some 156, .load 26 (.tmp 155), _, _, _, none⟩) rfl _ _ rfl w3.heap.size 1 30 38 s.eff s.ec.cells _ ?_ b10 rfl Tryz.underlying26 rfl (cpu_sz _) ?_); rfl)
          | ((with_reducible refine wpList_store_abs (o := ⟨none, .store 26 (.tmp 19) (.tmp 156), _, _, _, none⟩) rfl _ _ _ rfl wr.heap.size 26 zC.cells s.ec.cells ?_ ?_ ?_ ?_ ?_ ?_ ?_); rfl; rfl; exact (Blk.new _ _ _ _ rfl); exact (cpu_sz _); rfl; exact (cpu_one _); intro u9 b19 ob; have l9 := Below.only (later1 wr (.cells zC.cells.toArray 26)) ob (Nat.le_refl _); replace b3 := b3.keep l9; replace b4 := b4.keep l9; replace b10 := b10.keep l9; replace g3 := g3.keep l9; replace g4 := g4.keep l9; replace lw := Later.trans_ lw l9; clear ob l9))
        have e70 := b10.cell (j := 70) (v := .int .i64 t) (congrArg (fun z => some (Value.int .i64 z)) HT.out)
        go_wp2_with (first
          | (go_at_call 11; refine (KS.out _ lw).mono ?_; rintro e wS ⟨rfl, l1⟩; replace lw := Later.trans_ lw l1; replace b3 := b3.keep l1; replace b10 := b10.keep l1; replace b19 := b19.keep l1; clear e70; have k0 := b19.cell (j := 0) (v := .int .u32 x.c1) (congrArg (fun z => some (Value.int .u32 z)) HC1.out); have k26 := b19.cell (j := 26) (v := .bool false) (congrArg (fun z => some (Value.bool z)) HC2.out); have k22 := b19.cell (j := 22) (v := .int .u32 q5) (congrArg (fun z => some (Value.int .u32 z)) HC5x.out); have k20 := b19.cell (j := 20) (v := .int .u32 t) (congrArg (fun z => some (Value.int .u32 z)) HC3.out); have m18 := b3.cell (j := 18) (v := .int .u32 x.c1) rfl; have m26 := b3.cell (j := 26) (v := .bool x.u) rfl; have k70 := b10.cell (j := 70) (v := .int .i64 t) (congrArg (fun z => some (Value.int .i64 z)) HT.out))
          | ((with_reducible refine wpList_load_atg (o := ⟨some 193, .load 23 (.tmp 192), _, _, _, _⟩) _ _ rfl wr.heap.size 1 16 26 s.ec.cells x.regs _ ?_ ?_ ?_ (regs_of HC4.out) Tryz.underlying23 ?_ (regs_sz _) ?_); rfl; rfl; exact b19; rfl)
          | ((with_reducible refine wpList_load_atg (o := ⟨some 195, .load 23 (.tmp 194), _, _, _, _⟩) _ _ rfl w.heap.size 1 16 26 x.cells x.regs _ ?_ ?_ ?_ rfl Tryz.underlying23 ?_ (regs_sz _) ?_); rfl; rfl; exact b3; rfl))
        go_ret
        exact ⟨rfl, lw⟩
end Go.Proofs.YtbhhhpglljkcpaaGreatDoor
