/-
  Answer.
-/
import Derived.Test.YtidhodalnikhlaaGreatDoorWr
import Derived.Deep.RegionHeld
namespace Go.Proofs.YtidhodalnikhlaaGreatDoor
open Go.RowKit Go.ChangeShapes Go.WideShapes Go.ChangeAt

def Sp.done (s : Sp) (a b : Value) : Sp := { s with wv := a, av := b, ak := false, ii := false, ip := 0, iv := 0 }
/-- An effect with slices of its own. -/
def Answered (f : Value → Value → Sp) (nw na : Nat) (X1 X2 : List Value) (w : World) (e : Ending) (w' : World) : Prop :=
  ∃ A1 c1 A2 c2, e = .returned (.agg (f (.slice A1 nw c1) (.slice A2 na c2)).eff.toArray) ∧ Sl w' 3 A1 nw X1 ∧ Sl w' 3 A2 na X2 ∧ Later w w'
def Sp.refused (s : Sp) (a b : Value) : Sp := { s.done a b with ec := Cpu.enter s.ec 2 s.wd s.old.pc, tr := 2 }
def Sp.given (s : Sp) (i : Im.I) (v : Int) (a b : Value) : Sp := { s.done a b with ec := s.ec.putR i v }
theorem ins_one5 (a b c d e : Int) : ∀ v ∈ [Value.int .i64 a, .int .i64 b, .int .i64 c, .int .i64 d, .int .i64 e], v.oneCell' = true := by
  intro v hv
  simp only [List.mem_cons, List.not_mem_nil, or_false] at hv
  rcases hv with rfl | rfl | rfl | rfl | rfl <;> rfl
set_option maxRecDepth 100000 in
set_option maxHeartbeats 4000000 in
theorem ans_ok (s : Sp) (AW AA : Option Addr) (nw na cw ca : Nat) (X1 X2 : List Value) (v : Int) (w : World) (hk : s.ak = true) (hw : s.wv = .slice AW nw cw) (ha : s.av = .slice AA na ca) (hs1 : Sl w 3 AW nw X1) (hs2 : Sl w 3 AA na X2) (hq1 : nw ≤ 1000000) (hq2 : na ≤ 1000000) (hW : 0 ≤ s.wd ∧ s.wd < 4294967296) (hr : Im.Right (decI_S s.wd)) (tab : Tab w) : Calls Tryz.prog 15 #[.agg s.eff.toArray, .int .u32 v, .bool true] w (Answered (s.given (decI_S s.wd) v) nw na X1 X2 w) := by
  have HT := Lib.hid fun w' (l : Later w w') => tab.keep l
  have HD0 := fun w' (t : Tab w') => decode_any s.wd hW w' t
  obtain ⟨d, hd⟩ : ∃ d, d = decide (Im.Legal s.wd) := ⟨_, rfl⟩
  rw [← hd] at HD0
  obtain ⟨I, hI⟩ : ∃ I, I = decI_S s.wd := ⟨_, rfl⟩
  rw [← hI] at HD0 hr ⊢
  clear hd hI hW tab
  obtain ⟨op, a, b', c', im⟩ := I
  have HP0 := fun w' (s' : Sp) (h : Blk w' w.heap.size 38 s'.eff) (t : Tab w') => eput_any h (⟨op, a, b', c', im⟩ : Im.I) hr t v
  simp only [Im.I.cells] at HD0 HP0
  have HD := Lib.hid HD0
  have HP := Lib.hid HP0
  clear HD0 HP0 hr
  obtain ⟨u0, hu⟩ : ∃ u0, u0 = (w.alloc (.cells s.eff.toArray 38)).alloc (.cells zS.eff.toArray 38) := ⟨_, rfl⟩
  have lw : Later w u0 := by rw [hu]; exact (later1 w _).alloc (by simp) _
  have bE : Blk u0 w.heap.size 38 s.eff := by rw [hu]; exact (Blk.new w 38 s.eff.toArray s.eff rfl).alloc _
  have bR : Blk u0 (w.heap.size + 1) 38 zS.eff := by rw [hu]; exact Blk.new' (w.alloc (.cells s.eff.toArray 38)) (w.heap.size + 1) 38 zS.eff.toArray zS.eff (by simp) rfl
  have c6 : u0.cell? ⟨w.heap.size, 64, none⟩ = some (.bool true) := bE.cell (congrArg (fun x => some (Value.bool x)) hk)
  have f6 := bE.frz 64
  have HV1 := Lib.hid hw
  have HV2 := Lib.hid ha
  have HW := Lib.hid fun w' (l : Later w w') => clonew_any AW nw cw X1 w' (hs1.keep l) hq1
  have HA := Lib.hid fun w' (l : Later w w') => clonea_any AA na ca X2 w' (hs2.keep l) hq2
  clear hk hw ha hs1 hs2 hq1 hq2
  go_enter Tryz.func15, Tryz.ntmps15
  go_upto_region 1 with fail
  refine wp_eq_world (u := u0) hu ?_
  clear hu
  go_upto_region 4 with (first
    | ((refine wpList_store_at (o := ⟨none, .store 36 (.tmp 15) (.tmp 13), _, _, _, none⟩) rfl _ _ _ rfl rfl w.heap.size 65 38 _ [.bool false, .int .i64 0, .int .u32 0] ?_ ?_ (bE.set 64 (.bool false)) (io_sz _ _ _) (show 65 + 3 ≤ 71 from by decide) (fun u hu => by simp only [List.mem_cons, List.not_mem_nil, or_false] at hu; rcases hu with rfl | rfl | rfl <;> rfl) ?_); rfl; rfl; intro w3 b3 o3))
  replace bE : Blk w3 w.heap.size 38 ({ s with ak := false, ii := false, ip := 0, iv := 0 } : Sp).eff := b3
  replace bR := (((bR.set_other ⟨w.heap.size, 64, none⟩ (.bool false) (by show (w.heap.size + 1) ≠ w.heap.size; omega)).only o3 (by omega)))
  replace lw := Below.only (Below.setCell lw (p := ⟨w.heap.size, 64, none⟩) (Nat.le_refl _) (.bool false)) o3 (Nat.le_refl _)
  clear b3 o3 c6 f6
  go_cut [16] (fun _ wx => ∃ A1 c1 A2 c2, Blk wx w.heap.size 38 (Sp.done s (.slice A1 nw c1) (.slice A2 na c2)).eff ∧ Blk wx (w.heap.size + 1) 38 zS.eff ∧ Fr wx (w.heap.size + 1) A1 nw X1 ∧ Fr wx (w.heap.size + 1) A2 na X2 ∧ Later w wx)
  case first =>
    replace bE := bE.drew
    replace bR := bR.drew
    replace lw := Below.drew lw
    have c62 : World.cell? w3.drew ⟨w.heap.size, 62, none⟩ = some (.slice AW nw cw) := bE.cell (congrArg some HV1.out)
    have c63 : World.cell? w3.drew ⟨w.heap.size, 63, none⟩ = some (.slice AA na ca) := bE.cell (congrArg some HV2.out)
    have f62 := bE.frz 62
    refine wp_region_held_drew (S := fun w' => True) (by kernel_rfl) trivial (fun hHeld => ?_)
    refine wpAnyH_take (i := 0) (oi := ⟨some 16, .fieldAddr 38 (.tmp 3) 4, _, _, _, none⟩) (v := .pointer (some ⟨w.heap.size, 62, none⟩)) rfl (by kernel_rfl) (by kernel_rfl) (by kernel_rfl) (fun _ _ _ h => h) (Or.inl ⟨by rfl, fun w _ => by go_simp⟩) hHeld ?_
    simp only [Act.put, List.setIfInBounds_toArray, List.set_cons_zero, List.set_cons_succ]
    refine wpAnyH_take (i := 3) (oi := ⟨some 19, .fieldAddr 38 (.tmp 3) 5, _, _, _, none⟩) (v := .pointer (some ⟨w.heap.size, 63, none⟩)) rfl (by kernel_rfl) (by kernel_rfl) (by kernel_rfl) (fun _ _ _ h => h) (Or.inl ⟨by rfl, fun w _ => by go_simp⟩) hHeld ?_
    simp only [Act.put, List.setIfInBounds_toArray, List.set_cons_zero, List.set_cons_succ]
    refine wpAnyH_ready (rs := [1, 4]) (by kernel_rfl) (by simp) (AllReadyH.cons (o := ⟨some 17, .load 33 (.tmp 16), _, _, _, none⟩) rfl (fun K' hK => ?_) (AllReadyH.cons (o := ⟨some 20, .load 34 (.tmp 19), _, _, _, none⟩) rfl (fun K' hK => ?_) AllReadyH.nil))
    · go_simp
      refine hK.out _ _ trivial (fun hHeld => ?_)
      clear hK K'
      try simp only [Act.put, List.setIfInBounds_toArray, List.set_cons_zero, List.set_cons_succ]
      refine wpAnyH_ready (rs := [2, 4]) (by kernel_rfl) (by simp) (AllReadyH.cons (o := ⟨some 18, .call { callee := .value (.func 45), args := #[.tmp 17], argTypes := #[33] }, _, _, _, none⟩) rfl (fun K' hK => ?_) (AllReadyH.cons (o := ⟨some 20, .load 34 (.tmp 19), _, _, _, none⟩) rfl (fun K' hK => ?_) AllReadyH.nil))
      · go_simp
        refine (HW.out _ lw).mono ?_
        rintro e w4 ⟨A1, c1, rfl, s1, n1, l4⟩
        have t1 : Fr _ (w.heap.size + 1) _ _ _ := ⟨s1, fun ad e => Nat.lt_of_lt_of_le bR.lt (n1 ad e)⟩
        clear s1 n1
        replace bE := bE.keep l4
        replace bR := bR.keep l4
        replace lw := Later.trans_ lw l4
        clear c62 c63 f62
        have c62 : World.cell? w4 ⟨w.heap.size, 62, none⟩ = some (.slice AW nw cw) := bE.cell (congrArg some HV1.out)
        have c63 : World.cell? w4 ⟨w.heap.size, 63, none⟩ = some (.slice AA na ca) := bE.cell (congrArg some HV2.out)
        have f62 := bE.frz 62
        refine hK.out _ _ trivial (fun hHeld => ?_)
        clear hK K'
        try simp only [Act.put, List.setIfInBounds_toArray, List.set_cons_zero, List.set_cons_succ]
        refine wpAnyH_ready (rs := [4]) (by kernel_rfl) (by simp) (AllReadyH.cons (o := ⟨some 20, .load 34 (.tmp 19), _, _, _, none⟩) rfl (fun K' hK => ?_) AllReadyH.nil)
        go_simp
        refine hK.out _ _ trivial (fun hHeld => ?_)
        clear hK K'
        try simp only [Act.put, List.setIfInBounds_toArray, List.set_cons_zero, List.set_cons_succ]
        refine wpAnyH_ready (rs := [5]) (by kernel_rfl) (by simp) (AllReadyH.cons (o := ⟨some 21, .call { callee := .value (.func 46), args := #[.tmp 20], argTypes := #[34] }, _, _, _, none⟩) rfl (fun K' hK => ?_) AllReadyH.nil)
        go_simp
        refine (HA.out _ lw).mono ?_
        rintro e w5 ⟨A2, c2, rfl, s2, n2, l5⟩
        replace t1 := t1.keep l5
        have t2 : Fr _ (w.heap.size + 1) _ _ _ := ⟨s2, fun ad e => Nat.lt_of_lt_of_le bR.lt (n2 ad e)⟩
        clear s2 n2
        replace bE := bE.keep l5
        replace bR := bR.keep l5
        replace lw := Later.trans_ lw l5
        clear c62 c63 f62
        have c62 : World.cell? w5 ⟨w.heap.size, 62, none⟩ = some (.slice AW nw cw) := bE.cell (congrArg some HV1.out)
        have c63 : World.cell? w5 ⟨w.heap.size, 63, none⟩ = some (.slice AA na ca) := bE.cell (congrArg some HV2.out)
        have f62 := bE.frz 62
        refine hK.out _ _ trivial (fun hHeld => ?_)
        clear hK K'
        try simp only [Act.put, List.setIfInBounds_toArray, List.set_cons_zero, List.set_cons_succ]
        refine wpAnyH_take (i := 6) (oi := ⟨some 22, .fieldAddr 38 (.tmp 3) 4, _, _, _, none⟩) (v := .pointer (some ⟨w.heap.size, 62, none⟩)) rfl (by kernel_rfl) (by kernel_rfl) (by kernel_rfl) (fun _ _ _ h => h) (Or.inl ⟨by rfl, fun w _ => by go_simp⟩) hHeld ?_
        simp only [Act.put, List.setIfInBounds_toArray, List.set_cons_zero, List.set_cons_succ]
        refine wpAnyH_ready (rs := [7]) (by kernel_rfl) (by simp) (AllReadyH.cons (o := ⟨none, .store 33 (.tmp 22) (.tmp 18), _, _, _, none⟩) rfl (fun K' hK => ?_) AllReadyH.nil)
        go_simp
        replace t1 := t1.only (Only.set _ w.heap.size 62 (.slice A1 nw c1)) (by omega)
        replace t2 := t2.only (Only.set _ w.heap.size 62 (.slice A1 nw c1)) (by omega)
        replace bE := bE.set 62 (.slice A1 nw c1)
        replace bR := bR.set_other ⟨w.heap.size, 62, none⟩ (.slice A1 nw c1) (by show (w.heap.size + 1) ≠ w.heap.size; omega)
        replace lw := Below.setCell lw (p := ⟨w.heap.size, 62, none⟩) (Nat.le_refl _) (.slice A1 nw c1)
        clear c62 c63 f62
        have c63 : World.cell? _ ⟨w.heap.size, 63, none⟩ = some (.slice AA na ca) := bE.cell (j := 63) (congrArg some HV2.out)
        have f63 := bE.frz 63
        refine hK.out _ _ trivial (fun hHeld => ?_)
        clear hK K'
        try simp only [Act.put]
        refine wpAnyH_take (i := 8) (oi := ⟨some 23, .fieldAddr 38 (.tmp 3) 5, _, _, _, none⟩) (v := .pointer (some ⟨w.heap.size, 63, none⟩)) rfl (by kernel_rfl) (by kernel_rfl) (by kernel_rfl) (fun _ _ _ h => h) (Or.inl ⟨by rfl, fun w _ => by go_simp⟩) hHeld ?_
        simp only [Act.put, List.setIfInBounds_toArray, List.set_cons_zero, List.set_cons_succ]
        refine wpAnyH_ready (rs := [9]) (by kernel_rfl) (by simp) (AllReadyH.cons (o := ⟨none, .store 34 (.tmp 23) (.tmp 21), _, _, _, none⟩) rfl (fun K' hK => ?_) AllReadyH.nil)
        go_simp
        replace t1 := t1.only (Only.set _ w.heap.size 63 (.slice A2 na c2)) (by omega)
        replace t2 := t2.only (Only.set _ w.heap.size 63 (.slice A2 na c2)) (by omega)
        replace bE := bE.set 63 (.slice A2 na c2)
        replace bR := bR.set_other ⟨w.heap.size, 63, none⟩ (.slice A2 na c2) (by show (w.heap.size + 1) ≠ w.heap.size; omega)
        replace lw := Below.setCell lw (p := ⟨w.heap.size, 63, none⟩) (Nat.le_refl _) (.slice A2 na c2)
        clear c63 f63
        refine hK.out _ _ trivial (fun hHeld => ?_)
        clear hK K'
        try simp only [Act.put]
        refine wpAnyH_done (by kernel_rfl) ?_ _
        clear hHeld
        replace bE : Blk _ w.heap.size 38 (Sp.done s (.slice A1 nw c1) (.slice A2 na c2)).eff := bE
        go_wp2
        go_meet
        exact ⟨A1, c1, A2, c2, bE, bR, t1, t2, lw⟩
      · go_simp
        refine hK.out _ _ trivial (fun hHeld => ?_)
        clear hK K'
        try simp only [Act.put, List.setIfInBounds_toArray, List.set_cons_zero, List.set_cons_succ]
        refine wpAnyH_ready (rs := [2]) (by kernel_rfl) (by simp) (AllReadyH.cons (o := ⟨some 18, .call { callee := .value (.func 45), args := #[.tmp 17], argTypes := #[33] }, _, _, _, none⟩) rfl (fun K' hK => ?_) AllReadyH.nil)
        go_simp
        refine (HW.out _ lw).mono ?_
        rintro e w4 ⟨A1, c1, rfl, s1, n1, l4⟩
        have t1 : Fr _ (w.heap.size + 1) _ _ _ := ⟨s1, fun ad e => Nat.lt_of_lt_of_le bR.lt (n1 ad e)⟩
        clear s1 n1
        replace bE := bE.keep l4
        replace bR := bR.keep l4
        replace lw := Later.trans_ lw l4
        clear c62 c63 f62
        have c62 : World.cell? w4 ⟨w.heap.size, 62, none⟩ = some (.slice AW nw cw) := bE.cell (congrArg some HV1.out)
        have c63 : World.cell? w4 ⟨w.heap.size, 63, none⟩ = some (.slice AA na ca) := bE.cell (congrArg some HV2.out)
        have f62 := bE.frz 62
        refine hK.out _ _ trivial (fun hHeld => ?_)
        clear hK K'
        try simp only [Act.put, List.setIfInBounds_toArray, List.set_cons_zero, List.set_cons_succ]
        refine wpAnyH_ready (rs := [5]) (by kernel_rfl) (by simp) (AllReadyH.cons (o := ⟨some 21, .call { callee := .value (.func 46), args := #[.tmp 20], argTypes := #[34] }, _, _, _, none⟩) rfl (fun K' hK => ?_) AllReadyH.nil)
        go_simp
        refine (HA.out _ lw).mono ?_
        rintro e w5 ⟨A2, c2, rfl, s2, n2, l5⟩
        replace t1 := t1.keep l5
        have t2 : Fr _ (w.heap.size + 1) _ _ _ := ⟨s2, fun ad e => Nat.lt_of_lt_of_le bR.lt (n2 ad e)⟩
        clear s2 n2
        replace bE := bE.keep l5
        replace bR := bR.keep l5
        replace lw := Later.trans_ lw l5
        clear c62 c63 f62
        have c62 : World.cell? w5 ⟨w.heap.size, 62, none⟩ = some (.slice AW nw cw) := bE.cell (congrArg some HV1.out)
        have c63 : World.cell? w5 ⟨w.heap.size, 63, none⟩ = some (.slice AA na ca) := bE.cell (congrArg some HV2.out)
        have f62 := bE.frz 62
        refine hK.out _ _ trivial (fun hHeld => ?_)
        clear hK K'
        try simp only [Act.put, List.setIfInBounds_toArray, List.set_cons_zero, List.set_cons_succ]
        refine wpAnyH_take (i := 6) (oi := ⟨some 22, .fieldAddr 38 (.tmp 3) 4, _, _, _, none⟩) (v := .pointer (some ⟨w.heap.size, 62, none⟩)) rfl (by kernel_rfl) (by kernel_rfl) (by kernel_rfl) (fun _ _ _ h => h) (Or.inl ⟨by rfl, fun w _ => by go_simp⟩) hHeld ?_
        simp only [Act.put, List.setIfInBounds_toArray, List.set_cons_zero, List.set_cons_succ]
        refine wpAnyH_ready (rs := [7]) (by kernel_rfl) (by simp) (AllReadyH.cons (o := ⟨none, .store 33 (.tmp 22) (.tmp 18), _, _, _, none⟩) rfl (fun K' hK => ?_) AllReadyH.nil)
        go_simp
        replace t1 := t1.only (Only.set _ w.heap.size 62 (.slice A1 nw c1)) (by omega)
        replace t2 := t2.only (Only.set _ w.heap.size 62 (.slice A1 nw c1)) (by omega)
        replace bE := bE.set 62 (.slice A1 nw c1)
        replace bR := bR.set_other ⟨w.heap.size, 62, none⟩ (.slice A1 nw c1) (by show (w.heap.size + 1) ≠ w.heap.size; omega)
        replace lw := Below.setCell lw (p := ⟨w.heap.size, 62, none⟩) (Nat.le_refl _) (.slice A1 nw c1)
        clear c62 c63 f62
        have c63 : World.cell? _ ⟨w.heap.size, 63, none⟩ = some (.slice AA na ca) := bE.cell (j := 63) (congrArg some HV2.out)
        have f63 := bE.frz 63
        refine hK.out _ _ trivial (fun hHeld => ?_)
        clear hK K'
        try simp only [Act.put]
        refine wpAnyH_take (i := 8) (oi := ⟨some 23, .fieldAddr 38 (.tmp 3) 5, _, _, _, none⟩) (v := .pointer (some ⟨w.heap.size, 63, none⟩)) rfl (by kernel_rfl) (by kernel_rfl) (by kernel_rfl) (fun _ _ _ h => h) (Or.inl ⟨by rfl, fun w _ => by go_simp⟩) hHeld ?_
        simp only [Act.put, List.setIfInBounds_toArray, List.set_cons_zero, List.set_cons_succ]
        refine wpAnyH_ready (rs := [9]) (by kernel_rfl) (by simp) (AllReadyH.cons (o := ⟨none, .store 34 (.tmp 23) (.tmp 21), _, _, _, none⟩) rfl (fun K' hK => ?_) AllReadyH.nil)
        go_simp
        replace t1 := t1.only (Only.set _ w.heap.size 63 (.slice A2 na c2)) (by omega)
        replace t2 := t2.only (Only.set _ w.heap.size 63 (.slice A2 na c2)) (by omega)
        replace bE := bE.set 63 (.slice A2 na c2)
        replace bR := bR.set_other ⟨w.heap.size, 63, none⟩ (.slice A2 na c2) (by show (w.heap.size + 1) ≠ w.heap.size; omega)
        replace lw := Below.setCell lw (p := ⟨w.heap.size, 63, none⟩) (Nat.le_refl _) (.slice A2 na c2)
        clear c63 f63
        refine hK.out _ _ trivial (fun hHeld => ?_)
        clear hK K'
        try simp only [Act.put]
        refine wpAnyH_done (by kernel_rfl) ?_ _
        clear hHeld
        replace bE : Blk _ w.heap.size 38 (Sp.done s (.slice A1 nw c1) (.slice A2 na c2)).eff := bE
        go_wp2
        go_meet
        exact ⟨A1, c1, A2, c2, bE, bR, t1, t2, lw⟩
    · go_simp
      refine hK.out _ _ trivial (fun hHeld => ?_)
      clear hK K'
      try simp only [Act.put, List.setIfInBounds_toArray, List.set_cons_zero, List.set_cons_succ]
      refine wpAnyH_ready (rs := [1]) (by kernel_rfl) (by simp) (AllReadyH.cons (o := ⟨some 17, .load 33 (.tmp 16), _, _, _, none⟩) rfl (fun K' hK => ?_) AllReadyH.nil)
      go_simp
      refine hK.out _ _ trivial (fun hHeld => ?_)
      clear hK K'
      try simp only [Act.put, List.setIfInBounds_toArray, List.set_cons_zero, List.set_cons_succ]
      refine wpAnyH_ready (rs := [2]) (by kernel_rfl) (by simp) (AllReadyH.cons (o := ⟨some 18, .call { callee := .value (.func 45), args := #[.tmp 17], argTypes := #[33] }, _, _, _, none⟩) rfl (fun K' hK => ?_) AllReadyH.nil)
      go_simp
      refine (HW.out _ lw).mono ?_
      rintro e w4 ⟨A1, c1, rfl, s1, n1, l4⟩
      have t1 : Fr _ (w.heap.size + 1) _ _ _ := ⟨s1, fun ad e => Nat.lt_of_lt_of_le bR.lt (n1 ad e)⟩
      clear s1 n1
      replace bE := bE.keep l4
      replace bR := bR.keep l4
      replace lw := Later.trans_ lw l4
      clear c62 c63 f62
      have c62 : World.cell? w4 ⟨w.heap.size, 62, none⟩ = some (.slice AW nw cw) := bE.cell (congrArg some HV1.out)
      have c63 : World.cell? w4 ⟨w.heap.size, 63, none⟩ = some (.slice AA na ca) := bE.cell (congrArg some HV2.out)
      have f62 := bE.frz 62
      refine hK.out _ _ trivial (fun hHeld => ?_)
      clear hK K'
      try simp only [Act.put, List.setIfInBounds_toArray, List.set_cons_zero, List.set_cons_succ]
      refine wpAnyH_ready (rs := [5]) (by kernel_rfl) (by simp) (AllReadyH.cons (o := ⟨some 21, .call { callee := .value (.func 46), args := #[.tmp 20], argTypes := #[34] }, _, _, _, none⟩) rfl (fun K' hK => ?_) AllReadyH.nil)
      go_simp
      refine (HA.out _ lw).mono ?_
      rintro e w5 ⟨A2, c2, rfl, s2, n2, l5⟩
      replace t1 := t1.keep l5
      have t2 : Fr _ (w.heap.size + 1) _ _ _ := ⟨s2, fun ad e => Nat.lt_of_lt_of_le bR.lt (n2 ad e)⟩
      clear s2 n2
      replace bE := bE.keep l5
      replace bR := bR.keep l5
      replace lw := Later.trans_ lw l5
      clear c62 c63 f62
      have c62 : World.cell? w5 ⟨w.heap.size, 62, none⟩ = some (.slice AW nw cw) := bE.cell (congrArg some HV1.out)
      have c63 : World.cell? w5 ⟨w.heap.size, 63, none⟩ = some (.slice AA na ca) := bE.cell (congrArg some HV2.out)
      have f62 := bE.frz 62
      refine hK.out _ _ trivial (fun hHeld => ?_)
      clear hK K'
      try simp only [Act.put, List.setIfInBounds_toArray, List.set_cons_zero, List.set_cons_succ]
      refine wpAnyH_take (i := 6) (oi := ⟨some 22, .fieldAddr 38 (.tmp 3) 4, _, _, _, none⟩) (v := .pointer (some ⟨w.heap.size, 62, none⟩)) rfl (by kernel_rfl) (by kernel_rfl) (by kernel_rfl) (fun _ _ _ h => h) (Or.inl ⟨by rfl, fun w _ => by go_simp⟩) hHeld ?_
      simp only [Act.put, List.setIfInBounds_toArray, List.set_cons_zero, List.set_cons_succ]
      refine wpAnyH_ready (rs := [7]) (by kernel_rfl) (by simp) (AllReadyH.cons (o := ⟨none, .store 33 (.tmp 22) (.tmp 18), _, _, _, none⟩) rfl (fun K' hK => ?_) AllReadyH.nil)
      go_simp
      replace t1 := t1.only (Only.set _ w.heap.size 62 (.slice A1 nw c1)) (by omega)
      replace t2 := t2.only (Only.set _ w.heap.size 62 (.slice A1 nw c1)) (by omega)
      replace bE := bE.set 62 (.slice A1 nw c1)
      replace bR := bR.set_other ⟨w.heap.size, 62, none⟩ (.slice A1 nw c1) (by show (w.heap.size + 1) ≠ w.heap.size; omega)
      replace lw := Below.setCell lw (p := ⟨w.heap.size, 62, none⟩) (Nat.le_refl _) (.slice A1 nw c1)
      clear c62 c63 f62
      have c63 : World.cell? _ ⟨w.heap.size, 63, none⟩ = some (.slice AA na ca) := bE.cell (j := 63) (congrArg some HV2.out)
      have f63 := bE.frz 63
      refine hK.out _ _ trivial (fun hHeld => ?_)
      clear hK K'
      try simp only [Act.put]
      refine wpAnyH_take (i := 8) (oi := ⟨some 23, .fieldAddr 38 (.tmp 3) 5, _, _, _, none⟩) (v := .pointer (some ⟨w.heap.size, 63, none⟩)) rfl (by kernel_rfl) (by kernel_rfl) (by kernel_rfl) (fun _ _ _ h => h) (Or.inl ⟨by rfl, fun w _ => by go_simp⟩) hHeld ?_
      simp only [Act.put, List.setIfInBounds_toArray, List.set_cons_zero, List.set_cons_succ]
      refine wpAnyH_ready (rs := [9]) (by kernel_rfl) (by simp) (AllReadyH.cons (o := ⟨none, .store 34 (.tmp 23) (.tmp 21), _, _, _, none⟩) rfl (fun K' hK => ?_) AllReadyH.nil)
      go_simp
      replace t1 := t1.only (Only.set _ w.heap.size 63 (.slice A2 na c2)) (by omega)
      replace t2 := t2.only (Only.set _ w.heap.size 63 (.slice A2 na c2)) (by omega)
      replace bE := bE.set 63 (.slice A2 na c2)
      replace bR := bR.set_other ⟨w.heap.size, 63, none⟩ (.slice A2 na c2) (by show (w.heap.size + 1) ≠ w.heap.size; omega)
      replace lw := Below.setCell lw (p := ⟨w.heap.size, 63, none⟩) (Nat.le_refl _) (.slice A2 na c2)
      clear c63 f63
      refine hK.out _ _ trivial (fun hHeld => ?_)
      clear hK K'
      try simp only [Act.put]
      refine wpAnyH_done (by kernel_rfl) ?_ _
      clear hHeld
      replace bE : Blk _ w.heap.size 38 (Sp.done s (.slice A1 nw c1) (.slice A2 na c2)).eff := bE
      go_wp2
      go_meet
      exact ⟨A1, c1, A2, c2, bE, bR, t1, t2, lw⟩
  case rest =>
    clear bE bR lw
    obtain ⟨A1, c1, A2, c2, bE, bR, t1, t2, lw⟩ := hcut
    replace bE : Blk _ w.heap.size 38 (Sp.done s (.slice A1 nw c1) (.slice A2 na c2)).eff := bE
    have c61 := bE.cell (j := 61) (v := .int .u32 s.wd) rfl
    go_wp2_with (first
        | (go_at_call 48; refine (HD.out _ (HT.out _ lw)).mono ?_; rintro e w6 ⟨rfl, l6⟩; replace bE := bE.keep l6; replace bR := bR.keep l6; replace lw := Later.trans_ lw l6; replace t1 := t1.keep l6; replace t2 := t2.keep l6)
        | ((with_reducible refine wpList_store_abs (o := ⟨none, .store 70 (.tmp 7) (.tmp 41), _, _, _, none⟩) rfl _ _ _ rfl w6.heap.size 70 [.int .i64 0, .int .i64 0, .int .i64 0, .int .i64 0, .int .i64 0] [.int .i64 op, .int .i64 a, .int .i64 b', .int .i64 c', .int .i64 im] ?_ ?_ (Blk.new _ _ _ _ rfl) (ins_sz5 _ _ _ _ _) rfl (ins_one5 _ _ _ _ _) ?_); rfl; rfl; intro w8 b8 o8; have l8 : Later w6 w8 := Below.only (later1 w6 _) o8 (Nat.le_refl _); clear o8; replace bE := bE.keep l8; replace bR := bR.keep l8; replace lw := Later.trans_ lw l8; replace t1 := t1.keep l8; replace t2 := t2.keep l8)
        | ((with_reducible refine wpList_load_blk (o := ⟨some 44, .load 70 (.tmp 7), _, _, _, none⟩) rfl _ _ rfl w6.heap.size 70 [.int .i64 op, .int .i64 a, .int .i64 b', .int .i64 c', .int .i64 im] _ ?_ ?_ Tryz.underlying70 rfl (ins_sz5 _ _ _ _ _) ?_); rfl; exact b8)
        | (go_at_call 49; refine (HP.out _ (Sp.done s (.slice A1 nw c1) (.slice A2 na c2)) bE (HT.out _ lw)).mono ?_; rintro e w7 ⟨rfl, b7, u7⟩; replace bR := u7.blk bR (by omega); replace t1 := t1.but u7 (by omega); replace t2 := t2.but u7 (by omega); replace lw := u7.below lw (Nat.le_refl _) (Nat.le_of_lt bE.lt); replace bE := b7)
        | ((with_reducible refine wpList_load_blk (o := ⟨some 47, .load 38 (.tmp 3), _, _, _, none⟩) rfl _ _ rfl w.heap.size 38 (s.given (⟨op, a, b', c', im⟩ : Im.I) v (.slice A1 nw c1) (.slice A2 na c2)).eff _ ?_ ?_ Tryz.underlying38 rfl (eff_sz _) ?_); rfl; exact bE)
        | ((with_reducible refine wpList_store_abs (o := ⟨none, .store 38 (.tmp 6) (.tmp 47), _, _, _, none⟩) rfl _ _ _ rfl (w.heap.size + 1) 38 zS.eff (s.given (⟨op, a, b', c', im⟩ : Im.I) v (.slice A1 nw c1) (.slice A2 na c2)).eff ?_ ?_ bR (eff_sz _) rfl (eff_one _ rfl rfl) ?_); rfl; rfl; intro w9 b9 o9))
    exact bodyPost_ret (results_blk Tryz.results15 _ _ (w.heap.size + 1) 38 (s.given (⟨op, a, b', c', im⟩ : Im.I) v (.slice A1 nw c1) (.slice A2 na c2)).eff _ rfl b9 Tryz.underlying38 rfl (eff_sz _)) rfl ⟨A1, c1, A2, c2, rfl, (t1.only o9 (Nat.le_refl _)).1, (t2.only o9 (Nat.le_refl _)).1, Below.only lw o9 (by omega)⟩
end Go.Proofs.YtidhodalnikhlaaGreatDoor
