/-
  sanity: THE STEPS OF THE EXAMPLES.
-/
import Derived.Test.YtidhodalnikhlaaGreatDoorWu
namespace Go.Proofs.YtidhodalnikhlaaGreatDoor
open Go.RowKit Go.ChangeShapes Go.WideShapes Go.ChangeAt

theorem own4 {w : World} {base : Nat} {e : TypeId} {n : Nat} {v : Value} {xs : List Value} (h : w.ownsRow base e 3 v n xs) : ∃ A c, v = .slice A n c ∧ Sl w 3 A n xs ∧ ∀ ad, A = some ad → base ≤ ad.block ∧ ad.block < w.heap.size := by
  have hl := h.1
  rcases h.2 with ⟨rfl, rfl⟩ | ⟨g, cap, cur, rfl, hg, hc, _, _, _, hx⟩
  · exact ⟨none, 0, rfl, ⟨hl, fun h0 => absurd h0 (by omega)⟩, fun _ e => (by cases e)⟩
  · have hb : Blk w g e cur.toList := by unfold Blk; simpa using hc
    exact ⟨_, _, rfl, sl_of hl ⟨cur, hc, hx⟩, fun ad e => (by cases e; exact ⟨hg, hb.lt⟩)⟩
theorem wr_same (w : World) : (Op.equalIn 10000 64 (.agg #[.int .i64 8, .int .i64 4, .int .u32 7]) (.agg #[.int .i64 8, .int .i64 4, .int .u32 7])).run Tryz.prog w = .ok true w := by kernel_rfl
theorem sl_cells3 {w : World} {ad : Addr} {n : Nat} {xs : List Value} (h : Sl w 3 (some ad) n xs) (hn : 0 < n) (j : Nat) (v : Value) (hj : xs[j]? = some v) : w.cell? (ad.add j) = some v := by
  obtain ⟨a2, e2, _, hc⟩ := h.2 hn
  cases e2
  exact hc j v hj
theorem sl_lt3 {w : World} {A : Option Addr} {n : Nat} {xs : List Value} {ad : Addr} (h : Sl w 3 A n xs) (hn : 0 < n) (e : A = some ad) : ad.block < w.heap.size := by
  obtain ⟨a2, e2, h3, _⟩ := h.2 hn
  rw [e] at e2
  cases e2
  exact h3
theorem Sl.only3 {w w' : World} {g n : Nat} {A : Option Addr} {xs : List Value} (h : Sl w 3 A n xs) (o : Only g w w') (hn : ∀ ad, A = some ad → ad.block ≠ g) : Sl w' 3 A n xs :=
  h.block (Nat.le_of_eq o.size.symm) (fun ad e => o.2.2.2.2 _ (hn ad e))
theorem mk_page (w : World) : (Instr.makeSlice 27 (.int .i64 1) (.int .i64 1)).run Tryz.prog w = .ok (.slice (some ⟨w.heap.size, 0, none⟩) 1 1) (w.alloc (.cells (madeCells (Array.replicate 128 (.int .u8 0)) 128) 55)) := by
  obtain ⟨i0, hi, hz0, hz1, hz2⟩ := info_parts page_info
  have h := run_makeSlice (P := Tryz.prog) w 27 55 i0 _ Tryz.underlying27 hi hz0 .i64 .i64 1 1 (by omega) (by omega) (by rw [hz1]; decide) (by rw [hz2]; decide) (by omega)
  rw [hz1] at h
  exact h
theorem bA_bs : Wm.isBs bA := atB_bs _
theorem bB_bs : Wm.isBs bB := atB_bs _
theorem bO_bs : Wm.isBs bO := atB_bs _
theorem bF_bs : Wm.isBs bF := atB_bs _
theorem bC_bs : Wm.isBs bC := atB_bs _
theorem bI_bs : Wm.isBs bI := atB_bs _
set_option maxRecDepth 100000 in
set_option maxHeartbeats 8000000 in
theorem sanity_any (w : World) (tab : Tab w) : Calls Tryz.prog 11 #[] w fun e w' => e = .returned (.bool true) ∧ Later w w' := by
  have HbA := Lib.hid fun w' => at_any 16 1 0 0 5 1077936133 w' (by decide +kernel) (by decide)
  have HbB := Lib.hid fun w' => at_any 21 2 0 0 8 1417674760 w' (by decide +kernel) (by decide)
  have HbO := Lib.hid fun w' => at_any 20 1 0 0 130 1346371714 w' (by decide +kernel) (by decide)
  have HbF := Lib.hid fun w' => at_any 20 1 0 0 128 1346371712 w' (by decide +kernel) (by decide)
  have HbC := Lib.hid fun w' => at_any 40 0 0 0 0 2684354560 w' (by decide +kernel) (by decide)
  have HbI := Lib.hid fun w' => at_any 46 1 0 0 33 3091202081 w' (by decide +kernel) (by decide)
  have HST := Lib.hid fun b w' A c (hs : Sl w' 128 A 1 (U b)) (hb : Wm.isBs b) (l : Later w w') => san_step b A c w' hs hb (tab.keep l) (tab.keep l).lt
  have HT := Lib.hid fun (w' : World) (l : Later w w') => tab.keep l
  go_enter Tryz.func11, Tryz.ntmps11
  go_upto_region 4 with (first
    | (go_at_call 31; refine (rbegin_any 0 0 _ (by decide)).mono ?_; rintro e w1 ⟨rfl, l1⟩)
    | ((with_reducible refine wpList_store_abs (o := ⟨none, .store 26 (.tmp 1) (.tmp 13), _, _, _, none⟩) rfl _ _ _ rfl w1.heap.size 26 zC.cells (Cpu.start 0 0).cells ?_ ?_ (Blk.new _ _ _ _ rfl) (cpu_sz _) rfl (cpu_one _) ?_); rfl; rfl; intro w2 b2 o2; have l2 := Later.trans_ l1 (Below.only (later1 w1 _) o2 (Nat.le_refl _)); have c18 := b2.cell (j := 18) (v := .int .u32 0) rfl; have f18 := b2.frz 18; have c3 := b2.cell (j := 3) (v := .int .u32 0) rfl; have f3 := b2.frz 3))
  obtain ⟨w4, hw4⟩ : ∃ w4, w4 = (w2.setCell ⟨w1.heap.size, 18, none⟩ (.int .u32 64)).setCell ⟨w1.heap.size, 3, none⟩ (.int .u32 7) := ⟨_, rfl⟩
  have b1 : Blk w4 w1.heap.size 26 x0.cells := by rw [hw4]; exact (b2.set 18 _).set 3 _
  have lw : Later w w4 := by rw [hw4]; exact Below.setCell (Below.setCell l2 (by exact l1.size) _) (by exact l1.size) _
  refine wp_eq_world (u := w4) hw4 ?_
  clear hw4 b2 o2 l2 l1 c18 f18 c3 f3 tab
  go_cut [2] (fun q wx => ∃ g AW cw AA ca, q = .pointer (some ⟨g, 0, none⟩) ∧ Blk wx g 38 (sB bA (.slice AW (rW bA).ws.length cw) (.slice AA (rW bA).ac.length ca)).eff ∧ Sl wx 3 AW (rW bA).ws.length (Ws (rW bA).ws) ∧ Sl wx 3 AA (rW bA).ac.length (Acs (rW bA).ac) ∧ Later w4 wx)
  case first => as_aux_lemma =>
    replace b1 := b1.drew
    have lq := Below.drew (later0 w4)
    refine wp_region_held_drew (S := fun w' => w'.rangeAt w1.heap.size 0 x0.cells) (by kernel_rfl) (show World.rangeAt _ w1.heap.size 0 x0.cells from b1.range 0 30) (fun hHeld => ?_)
    refine wpAnyH_take (i := 0) (oi := ⟨some 18, .load 26 (.tmp 1), _, _, _, none⟩) (v := .agg x0.cells.toArray) rfl (by kernel_rfl) (by kernel_rfl) (by kernel_rfl) (fun _ _ _ h => h) (yieldsIf_load_mid (by rfl) _ _ rfl _ _ rfl x0.cells _ (fun w h => h) Tryz.underlying26 rfl (cpu_sz _)) hHeld ?_
    simp only [Act.put, List.setIfInBounds_toArray, List.set_cons_zero, List.set_cons_succ]
    refine wpAnyH_take (i := 1) (oi := ⟨some 19, .build 70 #[(0, .const (.int .i64 16)), (1, .const (.int .i64 1)), (4, .const (.int .i64 5))], _, _, _, none⟩) (v := .agg #[.int .i64 16, .int .i64 1, .int .i64 0, .int .i64 0, .int .i64 5]) rfl (by kernel_rfl) (by kernel_rfl) (by kernel_rfl) (fun _ _ _ h => h) (Or.inl ⟨by rfl, fun w _ => by go_simp⟩) hHeld ?_
    simp only [Act.put, List.setIfInBounds_toArray, List.set_cons_zero, List.set_cons_succ]
    refine wpAnyH_ready (rs := [2, 4]) (by kernel_rfl) (by simp) (AllReadyH.cons (o := ⟨some 20, .call { callee := .value (.func 32), args := #[.tmp 19], argTypes := #[70] }, _, _, _, none⟩) rfl (fun K' hK => ?_) (AllReadyH.cons (o := ⟨some 2, .alloc 38, _, _, _, none⟩) rfl (fun K' hK => ?_) AllReadyH.nil))
    · go_simp
      refine (HbA.out _).mono ?_
      rintro e u1 ⟨A1, c1, rfl, s1, l1⟩
      replace b1 := b1.keep l1
      replace lq := Later.trans_ lq l1
      clear l1
      refine hK.out _ _ (show World.rangeAt _ w1.heap.size 0 x0.cells from b1.range 0 30) (fun hHeld => ?_)
      clear hK K'
      try simp only [Act.put, List.setIfInBounds_toArray, List.set_cons_zero, List.set_cons_succ]
      refine wpAnyH_ready (rs := [3, 4]) (by kernel_rfl) (by simp) (AllReadyH.cons (o := ⟨some 21, .call { callee := .value (.func 13), args := #[.tmp 18, .tmp 20, .const (.int .u32 0)], argTypes := #[26, 29, 22] }, _, _, _, none⟩) rfl (fun K' hK => ?_) (AllReadyH.cons (o := ⟨some 2, .alloc 38, _, _, _, none⟩) rfl (fun K' hK => ?_) AllReadyH.nil))
      · go_simp
        refine (HST.out bA _ A1 c1 s1 (bA_bs) (Later.trans_ lw lq)).mono ?_
        rintro e u2 ⟨v1, a1, rfl, k1, k2, l1⟩
        obtain ⟨AW, cw, rfl, sw, hw⟩ := own4 k1
        obtain ⟨AA, ca, rfl, sa, ha⟩ := own4 k2
        clear k1 k2 s1
        replace b1 := b1.keep l1
        replace lq := Later.trans_ lq l1
        clear l1
        refine hK.out _ _ (show World.rangeAt _ w1.heap.size 0 x0.cells from b1.range 0 30) (fun hHeld => ?_)
        clear hK K'
        try simp only [Act.put, List.setIfInBounds_toArray, List.set_cons_zero, List.set_cons_succ]
        refine wpAnyH_ready (rs := [4]) (by kernel_rfl) (by simp) (AllReadyH.cons (o := ⟨some 2, .alloc 38, _, _, _, none⟩) rfl (fun K' hK => ?_) AllReadyH.nil)
        go_simp
        have n2 := Nat.ne_of_lt b1.lt
        have m2 := lq.size
        have bN := Blk.new u2 38 _ zS.eff rfl
        replace b1 := b1.alloc (.cells zS.eff.toArray 38)
        replace lq := lq.alloc m2 (.cells zS.eff.toArray 38)
        replace sw := sw.alloc (.cells zS.eff.toArray 38)
        replace sa := sa.alloc (.cells zS.eff.toArray 38)
        refine hK.out _ _ (show World.rangeAt _ w1.heap.size 0 x0.cells from b1.range 0 30) (fun hHeld => ?_)
        clear hK K'
        try simp only [Act.put, List.setIfInBounds_toArray, List.set_cons_zero, List.set_cons_succ]
        refine wpAnyH_ready (rs := [5]) (by kernel_rfl) (by simp) (AllReadyH.cons (o := ⟨none, .store 38 (.tmp 2) (.tmp 21), _, _, _, none⟩) rfl (fun K' hK => ?_) AllReadyH.nil)
        refine wp_store_abs 38 _ _ rfl u2.heap.size 38 zS.eff (sB bA (.slice AW (rW bA).ws.length cw) (.slice AA (rW bA).ac.length ca)).eff rfl rfl bN (eff_sz _) rfl (eff_one _ rfl rfl) ?_
        intro wq2 bq oq
        replace b1 := b1.only oq n2
        replace lq := Below.only lq oq m2
        replace sw := sw.only3 oq (fun ad e => (by have := hw ad e; omega))
        replace sa := sa.only3 oq (fun ad e => (by have := ha ad e; omega))
        clear bN oq
        refine hK.out _ _ (show World.rangeAt _ w1.heap.size 0 x0.cells from b1.range 0 30) (fun hHeld => ?_)
        clear hK K'
        try simp only [Act.put]
        refine wpAnyH_done (by kernel_rfl) ?_ _
        clear hHeld
        go_wp2
        go_meet
        exact ⟨_, _, _, _, _, rfl, bq, sw, sa, lq⟩
      · go_simp
        have n2 := Nat.ne_of_lt b1.lt
        have m2 := lq.size
        have bN := Blk.new u1 38 _ zS.eff rfl
        replace b1 := b1.alloc (.cells zS.eff.toArray 38)
        replace lq := lq.alloc m2 (.cells zS.eff.toArray 38)
        replace s1 := s1.alloc (.cells zS.eff.toArray 38)
        refine hK.out _ _ (show World.rangeAt _ w1.heap.size 0 x0.cells from b1.range 0 30) (fun hHeld => ?_)
        clear hK K'
        try simp only [Act.put, List.setIfInBounds_toArray, List.set_cons_zero, List.set_cons_succ]
        refine wpAnyH_ready (rs := [3]) (by kernel_rfl) (by simp) (AllReadyH.cons (o := ⟨some 21, .call { callee := .value (.func 13), args := #[.tmp 18, .tmp 20, .const (.int .u32 0)], argTypes := #[26, 29, 22] }, _, _, _, none⟩) rfl (fun K' hK => ?_) AllReadyH.nil)
        go_simp
        refine (HST.out bA _ A1 c1 s1 (bA_bs) (Later.trans_ lw lq)).mono ?_
        have gN := bN.lt
        rintro e u2 ⟨v1, a1, rfl, k1, k2, l1⟩
        obtain ⟨AW, cw, rfl, sw, hw⟩ := own4 k1
        obtain ⟨AA, ca, rfl, sa, ha⟩ := own4 k2
        clear k1 k2 s1
        replace b1 := b1.keep l1
        replace lq := Later.trans_ lq l1
        replace bN := bN.keep l1
        clear l1
        refine hK.out _ _ (show World.rangeAt _ w1.heap.size 0 x0.cells from b1.range 0 30) (fun hHeld => ?_)
        clear hK K'
        try simp only [Act.put, List.setIfInBounds_toArray, List.set_cons_zero, List.set_cons_succ]
        refine wpAnyH_ready (rs := [5]) (by kernel_rfl) (by simp) (AllReadyH.cons (o := ⟨none, .store 38 (.tmp 2) (.tmp 21), _, _, _, none⟩) rfl (fun K' hK => ?_) AllReadyH.nil)
        refine wp_store_abs 38 _ _ rfl u1.heap.size 38 zS.eff (sB bA (.slice AW (rW bA).ws.length cw) (.slice AA (rW bA).ac.length ca)).eff rfl rfl bN (eff_sz _) rfl (eff_one _ rfl rfl) ?_
        intro wq2 bq oq
        replace b1 := b1.only oq n2
        replace lq := Below.only lq oq m2
        replace sw := sw.only3 oq (fun ad e => (by have := hw ad e; omega))
        replace sa := sa.only3 oq (fun ad e => (by have := ha ad e; omega))
        clear bN oq
        refine hK.out _ _ (show World.rangeAt _ w1.heap.size 0 x0.cells from b1.range 0 30) (fun hHeld => ?_)
        clear hK K'
        try simp only [Act.put]
        refine wpAnyH_done (by kernel_rfl) ?_ _
        clear hHeld
        go_wp2
        go_meet
        exact ⟨_, _, _, _, _, rfl, bq, sw, sa, lq⟩
    · go_simp
      have n2 := Nat.ne_of_lt b1.lt
      have m2 := lq.size
      have bN := Blk.new w4.drew 38 _ zS.eff rfl
      replace b1 := b1.alloc (.cells zS.eff.toArray 38)
      replace lq := lq.alloc m2 (.cells zS.eff.toArray 38)
      refine hK.out _ _ (show World.rangeAt _ w1.heap.size 0 x0.cells from b1.range 0 30) (fun hHeld => ?_)
      clear hK K'
      try simp only [Act.put, List.setIfInBounds_toArray, List.set_cons_zero, List.set_cons_succ]
      refine wpAnyH_ready (rs := [2]) (by kernel_rfl) (by simp) (AllReadyH.cons (o := ⟨some 20, .call { callee := .value (.func 32), args := #[.tmp 19], argTypes := #[70] }, _, _, _, none⟩) rfl (fun K' hK => ?_) AllReadyH.nil)
      go_simp
      refine (HbA.out _).mono ?_
      rintro e u1 ⟨A1, c1, rfl, s1, l1⟩
      replace b1 := b1.keep l1
      replace lq := Later.trans_ lq l1
      replace bN := bN.keep l1
      clear l1
      refine hK.out _ _ (show World.rangeAt _ w1.heap.size 0 x0.cells from b1.range 0 30) (fun hHeld => ?_)
      clear hK K'
      try simp only [Act.put, List.setIfInBounds_toArray, List.set_cons_zero, List.set_cons_succ]
      refine wpAnyH_ready (rs := [3]) (by kernel_rfl) (by simp) (AllReadyH.cons (o := ⟨some 21, .call { callee := .value (.func 13), args := #[.tmp 18, .tmp 20, .const (.int .u32 0)], argTypes := #[26, 29, 22] }, _, _, _, none⟩) rfl (fun K' hK => ?_) AllReadyH.nil)
      go_simp
      refine (HST.out bA _ A1 c1 s1 (bA_bs) (Later.trans_ lw lq)).mono ?_
      have gN := bN.lt
      rintro e u2 ⟨v1, a1, rfl, k1, k2, l1⟩
      obtain ⟨AW, cw, rfl, sw, hw⟩ := own4 k1
      obtain ⟨AA, ca, rfl, sa, ha⟩ := own4 k2
      clear k1 k2 s1
      replace b1 := b1.keep l1
      replace lq := Later.trans_ lq l1
      replace bN := bN.keep l1
      clear l1
      refine hK.out _ _ (show World.rangeAt _ w1.heap.size 0 x0.cells from b1.range 0 30) (fun hHeld => ?_)
      clear hK K'
      try simp only [Act.put, List.setIfInBounds_toArray, List.set_cons_zero, List.set_cons_succ]
      refine wpAnyH_ready (rs := [5]) (by kernel_rfl) (by simp) (AllReadyH.cons (o := ⟨none, .store 38 (.tmp 2) (.tmp 21), _, _, _, none⟩) rfl (fun K' hK => ?_) AllReadyH.nil)
      refine wp_store_abs 38 _ _ rfl w4.heap.size 38 zS.eff (sB bA (.slice AW (rW bA).ws.length cw) (.slice AA (rW bA).ac.length ca)).eff rfl rfl bN (eff_sz _) rfl (eff_one _ rfl rfl) ?_
      intro wq2 bq oq
      replace b1 := b1.only oq n2
      replace lq := Below.only lq oq m2
      replace sw := sw.only3 oq (fun ad e => (by have := hw ad e; omega))
      replace sa := sa.only3 oq (fun ad e => (by have := ha ad e; omega))
      clear bN oq
      refine hK.out _ _ (show World.rangeAt _ w1.heap.size 0 x0.cells from b1.range 0 30) (fun hHeld => ?_)
      clear hK K'
      try simp only [Act.put]
      refine wpAnyH_done (by kernel_rfl) ?_ _
      clear hHeld
      go_wp2
      go_meet
      exact ⟨_, _, _, _, _, rfl, bq, sw, sa, lq⟩
  case rest =>
    obtain ⟨g2, p2, q2, r2, t2, rfl, x2, sw2, sa2, lq⟩ := hcut
    replace b1 := b1.keep lq
    replace lw := Later.trans_ lw lq
    clear lq
    clear sw2 sa2
    go_upto_region 5 with fail
    go_cut [3] (fun q wx => ∃ g AW cw AA ca, q = .pointer (some ⟨g, 0, none⟩) ∧ Blk wx g 38 (sB bB (.slice AW (rW bB).ws.length cw) (.slice AA (rW bB).ac.length ca)).eff ∧ Sl wx 3 AW (rW bB).ws.length (Ws (rW bB).ws) ∧ Sl wx 3 AA (rW bB).ac.length (Acs (rW bB).ac) ∧ Later wc wx)
    case first => as_aux_lemma =>
      replace b1 := b1.drew
      have lq := Below.drew (later0 wc)
      refine wp_region_held_drew (S := fun w' => w'.rangeAt w1.heap.size 0 x0.cells) (by kernel_rfl) (show World.rangeAt _ w1.heap.size 0 x0.cells from b1.range 0 30) (fun hHeld => ?_)
      refine wpAnyH_take (i := 0) (oi := ⟨some 22, .load 26 (.tmp 1), _, _, _, none⟩) (v := .agg x0.cells.toArray) rfl (by kernel_rfl) (by kernel_rfl) (by kernel_rfl) (fun _ _ _ h => h) (yieldsIf_load_mid (by rfl) _ _ rfl _ _ rfl x0.cells _ (fun w h => h) Tryz.underlying26 rfl (cpu_sz _)) hHeld ?_
      simp only [Act.put, List.setIfInBounds_toArray, List.set_cons_zero, List.set_cons_succ]
      refine wpAnyH_take (i := 1) (oi := ⟨some 23, .build 70 #[(0, .const (.int .i64 21)), (1, .const (.int .i64 2)), (4, .const (.int .i64 8))], _, _, _, none⟩) (v := .agg #[.int .i64 21, .int .i64 2, .int .i64 0, .int .i64 0, .int .i64 8]) rfl (by kernel_rfl) (by kernel_rfl) (by kernel_rfl) (fun _ _ _ h => h) (Or.inl ⟨by rfl, fun w _ => by go_simp⟩) hHeld ?_
      simp only [Act.put, List.setIfInBounds_toArray, List.set_cons_zero, List.set_cons_succ]
      refine wpAnyH_ready (rs := [2, 4]) (by kernel_rfl) (by simp) (AllReadyH.cons (o := ⟨some 24, .call { callee := .value (.func 32), args := #[.tmp 23], argTypes := #[70] }, _, _, _, none⟩) rfl (fun K' hK => ?_) (AllReadyH.cons (o := ⟨some 3, .alloc 38, _, _, _, none⟩) rfl (fun K' hK => ?_) AllReadyH.nil))
      · go_simp
        refine (HbB.out _).mono ?_
        rintro e u1 ⟨A1, c1, rfl, s1, l1⟩
        replace b1 := b1.keep l1
        replace lq := Later.trans_ lq l1
        clear l1
        refine hK.out _ _ (show World.rangeAt _ w1.heap.size 0 x0.cells from b1.range 0 30) (fun hHeld => ?_)
        clear hK K'
        try simp only [Act.put, List.setIfInBounds_toArray, List.set_cons_zero, List.set_cons_succ]
        refine wpAnyH_ready (rs := [3, 4]) (by kernel_rfl) (by simp) (AllReadyH.cons (o := ⟨some 25, .call { callee := .value (.func 13), args := #[.tmp 22, .tmp 24, .const (.int .u32 0)], argTypes := #[26, 29, 22] }, _, _, _, none⟩) rfl (fun K' hK => ?_) (AllReadyH.cons (o := ⟨some 3, .alloc 38, _, _, _, none⟩) rfl (fun K' hK => ?_) AllReadyH.nil))
        · go_simp
          refine (HST.out bB _ A1 c1 s1 (bB_bs) (Later.trans_ lw lq)).mono ?_
          rintro e u2 ⟨v1, a1, rfl, k1, k2, l1⟩
          obtain ⟨AW, cw, rfl, sw, hw⟩ := own4 k1
          obtain ⟨AA, ca, rfl, sa, ha⟩ := own4 k2
          clear k1 k2 s1
          replace b1 := b1.keep l1
          replace lq := Later.trans_ lq l1
          clear l1
          refine hK.out _ _ (show World.rangeAt _ w1.heap.size 0 x0.cells from b1.range 0 30) (fun hHeld => ?_)
          clear hK K'
          try simp only [Act.put, List.setIfInBounds_toArray, List.set_cons_zero, List.set_cons_succ]
          refine wpAnyH_ready (rs := [4]) (by kernel_rfl) (by simp) (AllReadyH.cons (o := ⟨some 3, .alloc 38, _, _, _, none⟩) rfl (fun K' hK => ?_) AllReadyH.nil)
          go_simp
          have n2 := Nat.ne_of_lt b1.lt
          have m2 := lq.size
          have bN := Blk.new u2 38 _ zS.eff rfl
          replace b1 := b1.alloc (.cells zS.eff.toArray 38)
          replace lq := lq.alloc m2 (.cells zS.eff.toArray 38)
          replace sw := sw.alloc (.cells zS.eff.toArray 38)
          replace sa := sa.alloc (.cells zS.eff.toArray 38)
          refine hK.out _ _ (show World.rangeAt _ w1.heap.size 0 x0.cells from b1.range 0 30) (fun hHeld => ?_)
          clear hK K'
          try simp only [Act.put, List.setIfInBounds_toArray, List.set_cons_zero, List.set_cons_succ]
          refine wpAnyH_ready (rs := [5]) (by kernel_rfl) (by simp) (AllReadyH.cons (o := ⟨none, .store 38 (.tmp 3) (.tmp 25), _, _, _, none⟩) rfl (fun K' hK => ?_) AllReadyH.nil)
          refine wp_store_abs 38 _ _ rfl u2.heap.size 38 zS.eff (sB bB (.slice AW (rW bB).ws.length cw) (.slice AA (rW bB).ac.length ca)).eff rfl rfl bN (eff_sz _) rfl (eff_one _ rfl rfl) ?_
          intro wq2 bq oq
          replace b1 := b1.only oq n2
          replace lq := Below.only lq oq m2
          replace sw := sw.only3 oq (fun ad e => (by have := hw ad e; omega))
          replace sa := sa.only3 oq (fun ad e => (by have := ha ad e; omega))
          clear bN oq
          refine hK.out _ _ (show World.rangeAt _ w1.heap.size 0 x0.cells from b1.range 0 30) (fun hHeld => ?_)
          clear hK K'
          try simp only [Act.put]
          refine wpAnyH_done (by kernel_rfl) ?_ _
          clear hHeld
          go_wp2
          go_meet
          exact ⟨_, _, _, _, _, rfl, bq, sw, sa, lq⟩
        · go_simp
          have n2 := Nat.ne_of_lt b1.lt
          have m2 := lq.size
          have bN := Blk.new u1 38 _ zS.eff rfl
          replace b1 := b1.alloc (.cells zS.eff.toArray 38)
          replace lq := lq.alloc m2 (.cells zS.eff.toArray 38)
          replace s1 := s1.alloc (.cells zS.eff.toArray 38)
          refine hK.out _ _ (show World.rangeAt _ w1.heap.size 0 x0.cells from b1.range 0 30) (fun hHeld => ?_)
          clear hK K'
          try simp only [Act.put, List.setIfInBounds_toArray, List.set_cons_zero, List.set_cons_succ]
          refine wpAnyH_ready (rs := [3]) (by kernel_rfl) (by simp) (AllReadyH.cons (o := ⟨some 25, .call { callee := .value (.func 13), args := #[.tmp 22, .tmp 24, .const (.int .u32 0)], argTypes := #[26, 29, 22] }, _, _, _, none⟩) rfl (fun K' hK => ?_) AllReadyH.nil)
          go_simp
          refine (HST.out bB _ A1 c1 s1 (bB_bs) (Later.trans_ lw lq)).mono ?_
          have gN := bN.lt
          rintro e u2 ⟨v1, a1, rfl, k1, k2, l1⟩
          obtain ⟨AW, cw, rfl, sw, hw⟩ := own4 k1
          obtain ⟨AA, ca, rfl, sa, ha⟩ := own4 k2
          clear k1 k2 s1
          replace b1 := b1.keep l1
          replace lq := Later.trans_ lq l1
          replace bN := bN.keep l1
          clear l1
          refine hK.out _ _ (show World.rangeAt _ w1.heap.size 0 x0.cells from b1.range 0 30) (fun hHeld => ?_)
          clear hK K'
          try simp only [Act.put, List.setIfInBounds_toArray, List.set_cons_zero, List.set_cons_succ]
          refine wpAnyH_ready (rs := [5]) (by kernel_rfl) (by simp) (AllReadyH.cons (o := ⟨none, .store 38 (.tmp 3) (.tmp 25), _, _, _, none⟩) rfl (fun K' hK => ?_) AllReadyH.nil)
          refine wp_store_abs 38 _ _ rfl u1.heap.size 38 zS.eff (sB bB (.slice AW (rW bB).ws.length cw) (.slice AA (rW bB).ac.length ca)).eff rfl rfl bN (eff_sz _) rfl (eff_one _ rfl rfl) ?_
          intro wq2 bq oq
          replace b1 := b1.only oq n2
          replace lq := Below.only lq oq m2
          replace sw := sw.only3 oq (fun ad e => (by have := hw ad e; omega))
          replace sa := sa.only3 oq (fun ad e => (by have := ha ad e; omega))
          clear bN oq
          refine hK.out _ _ (show World.rangeAt _ w1.heap.size 0 x0.cells from b1.range 0 30) (fun hHeld => ?_)
          clear hK K'
          try simp only [Act.put]
          refine wpAnyH_done (by kernel_rfl) ?_ _
          clear hHeld
          go_wp2
          go_meet
          exact ⟨_, _, _, _, _, rfl, bq, sw, sa, lq⟩
      · go_simp
        have n2 := Nat.ne_of_lt b1.lt
        have m2 := lq.size
        have bN := Blk.new wc.drew 38 _ zS.eff rfl
        replace b1 := b1.alloc (.cells zS.eff.toArray 38)
        replace lq := lq.alloc m2 (.cells zS.eff.toArray 38)
        refine hK.out _ _ (show World.rangeAt _ w1.heap.size 0 x0.cells from b1.range 0 30) (fun hHeld => ?_)
        clear hK K'
        try simp only [Act.put, List.setIfInBounds_toArray, List.set_cons_zero, List.set_cons_succ]
        refine wpAnyH_ready (rs := [2]) (by kernel_rfl) (by simp) (AllReadyH.cons (o := ⟨some 24, .call { callee := .value (.func 32), args := #[.tmp 23], argTypes := #[70] }, _, _, _, none⟩) rfl (fun K' hK => ?_) AllReadyH.nil)
        go_simp
        refine (HbB.out _).mono ?_
        rintro e u1 ⟨A1, c1, rfl, s1, l1⟩
        replace b1 := b1.keep l1
        replace lq := Later.trans_ lq l1
        replace bN := bN.keep l1
        clear l1
        refine hK.out _ _ (show World.rangeAt _ w1.heap.size 0 x0.cells from b1.range 0 30) (fun hHeld => ?_)
        clear hK K'
        try simp only [Act.put, List.setIfInBounds_toArray, List.set_cons_zero, List.set_cons_succ]
        refine wpAnyH_ready (rs := [3]) (by kernel_rfl) (by simp) (AllReadyH.cons (o := ⟨some 25, .call { callee := .value (.func 13), args := #[.tmp 22, .tmp 24, .const (.int .u32 0)], argTypes := #[26, 29, 22] }, _, _, _, none⟩) rfl (fun K' hK => ?_) AllReadyH.nil)
        go_simp
        refine (HST.out bB _ A1 c1 s1 (bB_bs) (Later.trans_ lw lq)).mono ?_
        have gN := bN.lt
        rintro e u2 ⟨v1, a1, rfl, k1, k2, l1⟩
        obtain ⟨AW, cw, rfl, sw, hw⟩ := own4 k1
        obtain ⟨AA, ca, rfl, sa, ha⟩ := own4 k2
        clear k1 k2 s1
        replace b1 := b1.keep l1
        replace lq := Later.trans_ lq l1
        replace bN := bN.keep l1
        clear l1
        refine hK.out _ _ (show World.rangeAt _ w1.heap.size 0 x0.cells from b1.range 0 30) (fun hHeld => ?_)
        clear hK K'
        try simp only [Act.put, List.setIfInBounds_toArray, List.set_cons_zero, List.set_cons_succ]
        refine wpAnyH_ready (rs := [5]) (by kernel_rfl) (by simp) (AllReadyH.cons (o := ⟨none, .store 38 (.tmp 3) (.tmp 25), _, _, _, none⟩) rfl (fun K' hK => ?_) AllReadyH.nil)
        refine wp_store_abs 38 _ _ rfl wc.heap.size 38 zS.eff (sB bB (.slice AW (rW bB).ws.length cw) (.slice AA (rW bB).ac.length ca)).eff rfl rfl bN (eff_sz _) rfl (eff_one _ rfl rfl) ?_
        intro wq2 bq oq
        replace b1 := b1.only oq n2
        replace lq := Below.only lq oq m2
        replace sw := sw.only3 oq (fun ad e => (by have := hw ad e; omega))
        replace sa := sa.only3 oq (fun ad e => (by have := ha ad e; omega))
        clear bN oq
        refine hK.out _ _ (show World.rangeAt _ w1.heap.size 0 x0.cells from b1.range 0 30) (fun hHeld => ?_)
        clear hK K'
        try simp only [Act.put]
        refine wpAnyH_done (by kernel_rfl) ?_ _
        clear hHeld
        go_wp2
        go_meet
        exact ⟨_, _, _, _, _, rfl, bq, sw, sa, lq⟩
    case rest =>
      obtain ⟨g3, p3, q3, r3, t3, rfl, x3, sw3, sa3, lq⟩ := hcut
      replace b1 := b1.keep lq
      replace lw := Later.trans_ lw lq
      replace x2 := x2.keep lq
      clear lq
      go_upto_region 6 with fail
      go_cut [4] (fun q wx => ∃ g AW cw AA ca, q = .pointer (some ⟨g, 0, none⟩) ∧ Blk wx g 38 (sB bO (.slice AW (rW bO).ws.length cw) (.slice AA (rW bO).ac.length ca)).eff ∧ Sl wx 3 AW (rW bO).ws.length (Ws (rW bO).ws) ∧ Sl wx 3 AA (rW bO).ac.length (Acs (rW bO).ac) ∧ Later wc wx)
      case first => as_aux_lemma =>
        replace b1 := b1.drew
        have lq := Below.drew (later0 wc)
        refine wp_region_held_drew (S := fun w' => w'.rangeAt w1.heap.size 0 x0.cells) (by kernel_rfl) (show World.rangeAt _ w1.heap.size 0 x0.cells from b1.range 0 30) (fun hHeld => ?_)
        refine wpAnyH_take (i := 0) (oi := ⟨some 26, .load 26 (.tmp 1), _, _, _, none⟩) (v := .agg x0.cells.toArray) rfl (by kernel_rfl) (by kernel_rfl) (by kernel_rfl) (fun _ _ _ h => h) (yieldsIf_load_mid (by rfl) _ _ rfl _ _ rfl x0.cells _ (fun w h => h) Tryz.underlying26 rfl (cpu_sz _)) hHeld ?_
        simp only [Act.put, List.setIfInBounds_toArray, List.set_cons_zero, List.set_cons_succ]
        refine wpAnyH_take (i := 1) (oi := ⟨some 27, .build 70 #[(0, .const (.int .i64 20)), (1, .const (.int .i64 1)), (4, .const (.int .i64 130))], _, _, _, none⟩) (v := .agg #[.int .i64 20, .int .i64 1, .int .i64 0, .int .i64 0, .int .i64 130]) rfl (by kernel_rfl) (by kernel_rfl) (by kernel_rfl) (fun _ _ _ h => h) (Or.inl ⟨by rfl, fun w _ => by go_simp⟩) hHeld ?_
        simp only [Act.put, List.setIfInBounds_toArray, List.set_cons_zero, List.set_cons_succ]
        refine wpAnyH_ready (rs := [2, 4]) (by kernel_rfl) (by simp) (AllReadyH.cons (o := ⟨some 28, .call { callee := .value (.func 32), args := #[.tmp 27], argTypes := #[70] }, _, _, _, none⟩) rfl (fun K' hK => ?_) (AllReadyH.cons (o := ⟨some 4, .alloc 38, _, _, _, none⟩) rfl (fun K' hK => ?_) AllReadyH.nil))
        · go_simp
          refine (HbO.out _).mono ?_
          rintro e u1 ⟨A1, c1, rfl, s1, l1⟩
          replace b1 := b1.keep l1
          replace lq := Later.trans_ lq l1
          clear l1
          refine hK.out _ _ (show World.rangeAt _ w1.heap.size 0 x0.cells from b1.range 0 30) (fun hHeld => ?_)
          clear hK K'
          try simp only [Act.put, List.setIfInBounds_toArray, List.set_cons_zero, List.set_cons_succ]
          refine wpAnyH_ready (rs := [3, 4]) (by kernel_rfl) (by simp) (AllReadyH.cons (o := ⟨some 29, .call { callee := .value (.func 13), args := #[.tmp 26, .tmp 28, .const (.int .u32 0)], argTypes := #[26, 29, 22] }, _, _, _, none⟩) rfl (fun K' hK => ?_) (AllReadyH.cons (o := ⟨some 4, .alloc 38, _, _, _, none⟩) rfl (fun K' hK => ?_) AllReadyH.nil))
          · go_simp
            refine (HST.out bO _ A1 c1 s1 (bO_bs) (Later.trans_ lw lq)).mono ?_
            rintro e u2 ⟨v1, a1, rfl, k1, k2, l1⟩
            obtain ⟨AW, cw, rfl, sw, hw⟩ := own4 k1
            obtain ⟨AA, ca, rfl, sa, ha⟩ := own4 k2
            clear k1 k2 s1
            replace b1 := b1.keep l1
            replace lq := Later.trans_ lq l1
            clear l1
            refine hK.out _ _ (show World.rangeAt _ w1.heap.size 0 x0.cells from b1.range 0 30) (fun hHeld => ?_)
            clear hK K'
            try simp only [Act.put, List.setIfInBounds_toArray, List.set_cons_zero, List.set_cons_succ]
            refine wpAnyH_ready (rs := [4]) (by kernel_rfl) (by simp) (AllReadyH.cons (o := ⟨some 4, .alloc 38, _, _, _, none⟩) rfl (fun K' hK => ?_) AllReadyH.nil)
            go_simp
            have n2 := Nat.ne_of_lt b1.lt
            have m2 := lq.size
            have bN := Blk.new u2 38 _ zS.eff rfl
            replace b1 := b1.alloc (.cells zS.eff.toArray 38)
            replace lq := lq.alloc m2 (.cells zS.eff.toArray 38)
            replace sw := sw.alloc (.cells zS.eff.toArray 38)
            replace sa := sa.alloc (.cells zS.eff.toArray 38)
            refine hK.out _ _ (show World.rangeAt _ w1.heap.size 0 x0.cells from b1.range 0 30) (fun hHeld => ?_)
            clear hK K'
            try simp only [Act.put, List.setIfInBounds_toArray, List.set_cons_zero, List.set_cons_succ]
            refine wpAnyH_ready (rs := [5]) (by kernel_rfl) (by simp) (AllReadyH.cons (o := ⟨none, .store 38 (.tmp 4) (.tmp 29), _, _, _, none⟩) rfl (fun K' hK => ?_) AllReadyH.nil)
            refine wp_store_abs 38 _ _ rfl u2.heap.size 38 zS.eff (sB bO (.slice AW (rW bO).ws.length cw) (.slice AA (rW bO).ac.length ca)).eff rfl rfl bN (eff_sz _) rfl (eff_one _ rfl rfl) ?_
            intro wq2 bq oq
            replace b1 := b1.only oq n2
            replace lq := Below.only lq oq m2
            replace sw := sw.only3 oq (fun ad e => (by have := hw ad e; omega))
            replace sa := sa.only3 oq (fun ad e => (by have := ha ad e; omega))
            clear bN oq
            refine hK.out _ _ (show World.rangeAt _ w1.heap.size 0 x0.cells from b1.range 0 30) (fun hHeld => ?_)
            clear hK K'
            try simp only [Act.put]
            refine wpAnyH_done (by kernel_rfl) ?_ _
            clear hHeld
            go_wp2
            go_meet
            exact ⟨_, _, _, _, _, rfl, bq, sw, sa, lq⟩
          · go_simp
            have n2 := Nat.ne_of_lt b1.lt
            have m2 := lq.size
            have bN := Blk.new u1 38 _ zS.eff rfl
            replace b1 := b1.alloc (.cells zS.eff.toArray 38)
            replace lq := lq.alloc m2 (.cells zS.eff.toArray 38)
            replace s1 := s1.alloc (.cells zS.eff.toArray 38)
            refine hK.out _ _ (show World.rangeAt _ w1.heap.size 0 x0.cells from b1.range 0 30) (fun hHeld => ?_)
            clear hK K'
            try simp only [Act.put, List.setIfInBounds_toArray, List.set_cons_zero, List.set_cons_succ]
            refine wpAnyH_ready (rs := [3]) (by kernel_rfl) (by simp) (AllReadyH.cons (o := ⟨some 29, .call { callee := .value (.func 13), args := #[.tmp 26, .tmp 28, .const (.int .u32 0)], argTypes := #[26, 29, 22] }, _, _, _, none⟩) rfl (fun K' hK => ?_) AllReadyH.nil)
            go_simp
            refine (HST.out bO _ A1 c1 s1 (bO_bs) (Later.trans_ lw lq)).mono ?_
            have gN := bN.lt
            rintro e u2 ⟨v1, a1, rfl, k1, k2, l1⟩
            obtain ⟨AW, cw, rfl, sw, hw⟩ := own4 k1
            obtain ⟨AA, ca, rfl, sa, ha⟩ := own4 k2
            clear k1 k2 s1
            replace b1 := b1.keep l1
            replace lq := Later.trans_ lq l1
            replace bN := bN.keep l1
            clear l1
            refine hK.out _ _ (show World.rangeAt _ w1.heap.size 0 x0.cells from b1.range 0 30) (fun hHeld => ?_)
            clear hK K'
            try simp only [Act.put, List.setIfInBounds_toArray, List.set_cons_zero, List.set_cons_succ]
            refine wpAnyH_ready (rs := [5]) (by kernel_rfl) (by simp) (AllReadyH.cons (o := ⟨none, .store 38 (.tmp 4) (.tmp 29), _, _, _, none⟩) rfl (fun K' hK => ?_) AllReadyH.nil)
            refine wp_store_abs 38 _ _ rfl u1.heap.size 38 zS.eff (sB bO (.slice AW (rW bO).ws.length cw) (.slice AA (rW bO).ac.length ca)).eff rfl rfl bN (eff_sz _) rfl (eff_one _ rfl rfl) ?_
            intro wq2 bq oq
            replace b1 := b1.only oq n2
            replace lq := Below.only lq oq m2
            replace sw := sw.only3 oq (fun ad e => (by have := hw ad e; omega))
            replace sa := sa.only3 oq (fun ad e => (by have := ha ad e; omega))
            clear bN oq
            refine hK.out _ _ (show World.rangeAt _ w1.heap.size 0 x0.cells from b1.range 0 30) (fun hHeld => ?_)
            clear hK K'
            try simp only [Act.put]
            refine wpAnyH_done (by kernel_rfl) ?_ _
            clear hHeld
            go_wp2
            go_meet
            exact ⟨_, _, _, _, _, rfl, bq, sw, sa, lq⟩
        · go_simp
          have n2 := Nat.ne_of_lt b1.lt
          have m2 := lq.size
          have bN := Blk.new wc.drew 38 _ zS.eff rfl
          replace b1 := b1.alloc (.cells zS.eff.toArray 38)
          replace lq := lq.alloc m2 (.cells zS.eff.toArray 38)
          refine hK.out _ _ (show World.rangeAt _ w1.heap.size 0 x0.cells from b1.range 0 30) (fun hHeld => ?_)
          clear hK K'
          try simp only [Act.put, List.setIfInBounds_toArray, List.set_cons_zero, List.set_cons_succ]
          refine wpAnyH_ready (rs := [2]) (by kernel_rfl) (by simp) (AllReadyH.cons (o := ⟨some 28, .call { callee := .value (.func 32), args := #[.tmp 27], argTypes := #[70] }, _, _, _, none⟩) rfl (fun K' hK => ?_) AllReadyH.nil)
          go_simp
          refine (HbO.out _).mono ?_
          rintro e u1 ⟨A1, c1, rfl, s1, l1⟩
          replace b1 := b1.keep l1
          replace lq := Later.trans_ lq l1
          replace bN := bN.keep l1
          clear l1
          refine hK.out _ _ (show World.rangeAt _ w1.heap.size 0 x0.cells from b1.range 0 30) (fun hHeld => ?_)
          clear hK K'
          try simp only [Act.put, List.setIfInBounds_toArray, List.set_cons_zero, List.set_cons_succ]
          refine wpAnyH_ready (rs := [3]) (by kernel_rfl) (by simp) (AllReadyH.cons (o := ⟨some 29, .call { callee := .value (.func 13), args := #[.tmp 26, .tmp 28, .const (.int .u32 0)], argTypes := #[26, 29, 22] }, _, _, _, none⟩) rfl (fun K' hK => ?_) AllReadyH.nil)
          go_simp
          refine (HST.out bO _ A1 c1 s1 (bO_bs) (Later.trans_ lw lq)).mono ?_
          have gN := bN.lt
          rintro e u2 ⟨v1, a1, rfl, k1, k2, l1⟩
          obtain ⟨AW, cw, rfl, sw, hw⟩ := own4 k1
          obtain ⟨AA, ca, rfl, sa, ha⟩ := own4 k2
          clear k1 k2 s1
          replace b1 := b1.keep l1
          replace lq := Later.trans_ lq l1
          replace bN := bN.keep l1
          clear l1
          refine hK.out _ _ (show World.rangeAt _ w1.heap.size 0 x0.cells from b1.range 0 30) (fun hHeld => ?_)
          clear hK K'
          try simp only [Act.put, List.setIfInBounds_toArray, List.set_cons_zero, List.set_cons_succ]
          refine wpAnyH_ready (rs := [5]) (by kernel_rfl) (by simp) (AllReadyH.cons (o := ⟨none, .store 38 (.tmp 4) (.tmp 29), _, _, _, none⟩) rfl (fun K' hK => ?_) AllReadyH.nil)
          refine wp_store_abs 38 _ _ rfl wc.heap.size 38 zS.eff (sB bO (.slice AW (rW bO).ws.length cw) (.slice AA (rW bO).ac.length ca)).eff rfl rfl bN (eff_sz _) rfl (eff_one _ rfl rfl) ?_
          intro wq2 bq oq
          replace b1 := b1.only oq n2
          replace lq := Below.only lq oq m2
          replace sw := sw.only3 oq (fun ad e => (by have := hw ad e; omega))
          replace sa := sa.only3 oq (fun ad e => (by have := ha ad e; omega))
          clear bN oq
          refine hK.out _ _ (show World.rangeAt _ w1.heap.size 0 x0.cells from b1.range 0 30) (fun hHeld => ?_)
          clear hK K'
          try simp only [Act.put]
          refine wpAnyH_done (by kernel_rfl) ?_ _
          clear hHeld
          go_wp2
          go_meet
          exact ⟨_, _, _, _, _, rfl, bq, sw, sa, lq⟩
      case rest =>
        obtain ⟨g4, p4, q4, r4, t4, rfl, x4, sw4, sa4, lq⟩ := hcut
        replace b1 := b1.keep lq
        replace lw := Later.trans_ lw lq
        replace x2 := x2.keep lq
        replace x3 := x3.keep lq
        replace sw3 := sw3.keep lq
        replace sa3 := sa3.keep lq
        clear lq
        clear sw4 sa4
        go_upto_region 7 with fail
        go_cut [5] (fun q wx => ∃ g AW cw AA ca, q = .pointer (some ⟨g, 0, none⟩) ∧ Blk wx g 38 (sB bF (.slice AW (rW bF).ws.length cw) (.slice AA (rW bF).ac.length ca)).eff ∧ Sl wx 3 AW (rW bF).ws.length (Ws (rW bF).ws) ∧ Sl wx 3 AA (rW bF).ac.length (Acs (rW bF).ac) ∧ Later wc wx)
        case first => as_aux_lemma =>
          replace b1 := b1.drew
          have lq := Below.drew (later0 wc)
          refine wp_region_held_drew (S := fun w' => w'.rangeAt w1.heap.size 0 x0.cells) (by kernel_rfl) (show World.rangeAt _ w1.heap.size 0 x0.cells from b1.range 0 30) (fun hHeld => ?_)
          refine wpAnyH_take (i := 0) (oi := ⟨some 30, .load 26 (.tmp 1), _, _, _, none⟩) (v := .agg x0.cells.toArray) rfl (by kernel_rfl) (by kernel_rfl) (by kernel_rfl) (fun _ _ _ h => h) (yieldsIf_load_mid (by rfl) _ _ rfl _ _ rfl x0.cells _ (fun w h => h) Tryz.underlying26 rfl (cpu_sz _)) hHeld ?_
          simp only [Act.put, List.setIfInBounds_toArray, List.set_cons_zero, List.set_cons_succ]
          refine wpAnyH_take (i := 1) (oi := ⟨some 31, .build 70 #[(0, .const (.int .i64 20)), (1, .const (.int .i64 1)), (4, .const (.int .i64 128))], _, _, _, none⟩) (v := .agg #[.int .i64 20, .int .i64 1, .int .i64 0, .int .i64 0, .int .i64 128]) rfl (by kernel_rfl) (by kernel_rfl) (by kernel_rfl) (fun _ _ _ h => h) (Or.inl ⟨by rfl, fun w _ => by go_simp⟩) hHeld ?_
          simp only [Act.put, List.setIfInBounds_toArray, List.set_cons_zero, List.set_cons_succ]
          refine wpAnyH_ready (rs := [2, 4]) (by kernel_rfl) (by simp) (AllReadyH.cons (o := ⟨some 32, .call { callee := .value (.func 32), args := #[.tmp 31], argTypes := #[70] }, _, _, _, none⟩) rfl (fun K' hK => ?_) (AllReadyH.cons (o := ⟨some 5, .alloc 38, _, _, _, none⟩) rfl (fun K' hK => ?_) AllReadyH.nil))
          · go_simp
            refine (HbF.out _).mono ?_
            rintro e u1 ⟨A1, c1, rfl, s1, l1⟩
            replace b1 := b1.keep l1
            replace lq := Later.trans_ lq l1
            clear l1
            refine hK.out _ _ (show World.rangeAt _ w1.heap.size 0 x0.cells from b1.range 0 30) (fun hHeld => ?_)
            clear hK K'
            try simp only [Act.put, List.setIfInBounds_toArray, List.set_cons_zero, List.set_cons_succ]
            refine wpAnyH_ready (rs := [3, 4]) (by kernel_rfl) (by simp) (AllReadyH.cons (o := ⟨some 33, .call { callee := .value (.func 13), args := #[.tmp 30, .tmp 32, .const (.int .u32 0)], argTypes := #[26, 29, 22] }, _, _, _, none⟩) rfl (fun K' hK => ?_) (AllReadyH.cons (o := ⟨some 5, .alloc 38, _, _, _, none⟩) rfl (fun K' hK => ?_) AllReadyH.nil))
            · go_simp
              refine (HST.out bF _ A1 c1 s1 (bF_bs) (Later.trans_ lw lq)).mono ?_
              rintro e u2 ⟨v1, a1, rfl, k1, k2, l1⟩
              obtain ⟨AW, cw, rfl, sw, hw⟩ := own4 k1
              obtain ⟨AA, ca, rfl, sa, ha⟩ := own4 k2
              clear k1 k2 s1
              replace b1 := b1.keep l1
              replace lq := Later.trans_ lq l1
              clear l1
              refine hK.out _ _ (show World.rangeAt _ w1.heap.size 0 x0.cells from b1.range 0 30) (fun hHeld => ?_)
              clear hK K'
              try simp only [Act.put, List.setIfInBounds_toArray, List.set_cons_zero, List.set_cons_succ]
              refine wpAnyH_ready (rs := [4]) (by kernel_rfl) (by simp) (AllReadyH.cons (o := ⟨some 5, .alloc 38, _, _, _, none⟩) rfl (fun K' hK => ?_) AllReadyH.nil)
              go_simp
              have n2 := Nat.ne_of_lt b1.lt
              have m2 := lq.size
              have bN := Blk.new u2 38 _ zS.eff rfl
              replace b1 := b1.alloc (.cells zS.eff.toArray 38)
              replace lq := lq.alloc m2 (.cells zS.eff.toArray 38)
              replace sw := sw.alloc (.cells zS.eff.toArray 38)
              replace sa := sa.alloc (.cells zS.eff.toArray 38)
              refine hK.out _ _ (show World.rangeAt _ w1.heap.size 0 x0.cells from b1.range 0 30) (fun hHeld => ?_)
              clear hK K'
              try simp only [Act.put, List.setIfInBounds_toArray, List.set_cons_zero, List.set_cons_succ]
              refine wpAnyH_ready (rs := [5]) (by kernel_rfl) (by simp) (AllReadyH.cons (o := ⟨none, .store 38 (.tmp 5) (.tmp 33), _, _, _, none⟩) rfl (fun K' hK => ?_) AllReadyH.nil)
              refine wp_store_abs 38 _ _ rfl u2.heap.size 38 zS.eff (sB bF (.slice AW (rW bF).ws.length cw) (.slice AA (rW bF).ac.length ca)).eff rfl rfl bN (eff_sz _) rfl (eff_one _ rfl rfl) ?_
              intro wq2 bq oq
              replace b1 := b1.only oq n2
              replace lq := Below.only lq oq m2
              replace sw := sw.only3 oq (fun ad e => (by have := hw ad e; omega))
              replace sa := sa.only3 oq (fun ad e => (by have := ha ad e; omega))
              clear bN oq
              refine hK.out _ _ (show World.rangeAt _ w1.heap.size 0 x0.cells from b1.range 0 30) (fun hHeld => ?_)
              clear hK K'
              try simp only [Act.put]
              refine wpAnyH_done (by kernel_rfl) ?_ _
              clear hHeld
              go_wp2
              go_meet
              exact ⟨_, _, _, _, _, rfl, bq, sw, sa, lq⟩
            · go_simp
              have n2 := Nat.ne_of_lt b1.lt
              have m2 := lq.size
              have bN := Blk.new u1 38 _ zS.eff rfl
              replace b1 := b1.alloc (.cells zS.eff.toArray 38)
              replace lq := lq.alloc m2 (.cells zS.eff.toArray 38)
              replace s1 := s1.alloc (.cells zS.eff.toArray 38)
              refine hK.out _ _ (show World.rangeAt _ w1.heap.size 0 x0.cells from b1.range 0 30) (fun hHeld => ?_)
              clear hK K'
              try simp only [Act.put, List.setIfInBounds_toArray, List.set_cons_zero, List.set_cons_succ]
              refine wpAnyH_ready (rs := [3]) (by kernel_rfl) (by simp) (AllReadyH.cons (o := ⟨some 33, .call { callee := .value (.func 13), args := #[.tmp 30, .tmp 32, .const (.int .u32 0)], argTypes := #[26, 29, 22] }, _, _, _, none⟩) rfl (fun K' hK => ?_) AllReadyH.nil)
              go_simp
              refine (HST.out bF _ A1 c1 s1 (bF_bs) (Later.trans_ lw lq)).mono ?_
              have gN := bN.lt
              rintro e u2 ⟨v1, a1, rfl, k1, k2, l1⟩
              obtain ⟨AW, cw, rfl, sw, hw⟩ := own4 k1
              obtain ⟨AA, ca, rfl, sa, ha⟩ := own4 k2
              clear k1 k2 s1
              replace b1 := b1.keep l1
              replace lq := Later.trans_ lq l1
              replace bN := bN.keep l1
              clear l1
              refine hK.out _ _ (show World.rangeAt _ w1.heap.size 0 x0.cells from b1.range 0 30) (fun hHeld => ?_)
              clear hK K'
              try simp only [Act.put, List.setIfInBounds_toArray, List.set_cons_zero, List.set_cons_succ]
              refine wpAnyH_ready (rs := [5]) (by kernel_rfl) (by simp) (AllReadyH.cons (o := ⟨none, .store 38 (.tmp 5) (.tmp 33), _, _, _, none⟩) rfl (fun K' hK => ?_) AllReadyH.nil)
              refine wp_store_abs 38 _ _ rfl u1.heap.size 38 zS.eff (sB bF (.slice AW (rW bF).ws.length cw) (.slice AA (rW bF).ac.length ca)).eff rfl rfl bN (eff_sz _) rfl (eff_one _ rfl rfl) ?_
              intro wq2 bq oq
              replace b1 := b1.only oq n2
              replace lq := Below.only lq oq m2
              replace sw := sw.only3 oq (fun ad e => (by have := hw ad e; omega))
              replace sa := sa.only3 oq (fun ad e => (by have := ha ad e; omega))
              clear bN oq
              refine hK.out _ _ (show World.rangeAt _ w1.heap.size 0 x0.cells from b1.range 0 30) (fun hHeld => ?_)
              clear hK K'
              try simp only [Act.put]
              refine wpAnyH_done (by kernel_rfl) ?_ _
              clear hHeld
              go_wp2
              go_meet
              exact ⟨_, _, _, _, _, rfl, bq, sw, sa, lq⟩
          · go_simp
            have n2 := Nat.ne_of_lt b1.lt
            have m2 := lq.size
            have bN := Blk.new wc.drew 38 _ zS.eff rfl
            replace b1 := b1.alloc (.cells zS.eff.toArray 38)
            replace lq := lq.alloc m2 (.cells zS.eff.toArray 38)
            refine hK.out _ _ (show World.rangeAt _ w1.heap.size 0 x0.cells from b1.range 0 30) (fun hHeld => ?_)
            clear hK K'
            try simp only [Act.put, List.setIfInBounds_toArray, List.set_cons_zero, List.set_cons_succ]
            refine wpAnyH_ready (rs := [2]) (by kernel_rfl) (by simp) (AllReadyH.cons (o := ⟨some 32, .call { callee := .value (.func 32), args := #[.tmp 31], argTypes := #[70] }, _, _, _, none⟩) rfl (fun K' hK => ?_) AllReadyH.nil)
            go_simp
            refine (HbF.out _).mono ?_
            rintro e u1 ⟨A1, c1, rfl, s1, l1⟩
            replace b1 := b1.keep l1
            replace lq := Later.trans_ lq l1
            replace bN := bN.keep l1
            clear l1
            refine hK.out _ _ (show World.rangeAt _ w1.heap.size 0 x0.cells from b1.range 0 30) (fun hHeld => ?_)
            clear hK K'
            try simp only [Act.put, List.setIfInBounds_toArray, List.set_cons_zero, List.set_cons_succ]
            refine wpAnyH_ready (rs := [3]) (by kernel_rfl) (by simp) (AllReadyH.cons (o := ⟨some 33, .call { callee := .value (.func 13), args := #[.tmp 30, .tmp 32, .const (.int .u32 0)], argTypes := #[26, 29, 22] }, _, _, _, none⟩) rfl (fun K' hK => ?_) AllReadyH.nil)
            go_simp
            refine (HST.out bF _ A1 c1 s1 (bF_bs) (Later.trans_ lw lq)).mono ?_
            have gN := bN.lt
            rintro e u2 ⟨v1, a1, rfl, k1, k2, l1⟩
            obtain ⟨AW, cw, rfl, sw, hw⟩ := own4 k1
            obtain ⟨AA, ca, rfl, sa, ha⟩ := own4 k2
            clear k1 k2 s1
            replace b1 := b1.keep l1
            replace lq := Later.trans_ lq l1
            replace bN := bN.keep l1
            clear l1
            refine hK.out _ _ (show World.rangeAt _ w1.heap.size 0 x0.cells from b1.range 0 30) (fun hHeld => ?_)
            clear hK K'
            try simp only [Act.put, List.setIfInBounds_toArray, List.set_cons_zero, List.set_cons_succ]
            refine wpAnyH_ready (rs := [5]) (by kernel_rfl) (by simp) (AllReadyH.cons (o := ⟨none, .store 38 (.tmp 5) (.tmp 33), _, _, _, none⟩) rfl (fun K' hK => ?_) AllReadyH.nil)
            refine wp_store_abs 38 _ _ rfl wc.heap.size 38 zS.eff (sB bF (.slice AW (rW bF).ws.length cw) (.slice AA (rW bF).ac.length ca)).eff rfl rfl bN (eff_sz _) rfl (eff_one _ rfl rfl) ?_
            intro wq2 bq oq
            replace b1 := b1.only oq n2
            replace lq := Below.only lq oq m2
            replace sw := sw.only3 oq (fun ad e => (by have := hw ad e; omega))
            replace sa := sa.only3 oq (fun ad e => (by have := ha ad e; omega))
            clear bN oq
            refine hK.out _ _ (show World.rangeAt _ w1.heap.size 0 x0.cells from b1.range 0 30) (fun hHeld => ?_)
            clear hK K'
            try simp only [Act.put]
            refine wpAnyH_done (by kernel_rfl) ?_ _
            clear hHeld
            go_wp2
            go_meet
            exact ⟨_, _, _, _, _, rfl, bq, sw, sa, lq⟩
        case rest =>
          obtain ⟨g5, p5, q5, r5, t5, rfl, x5, sw5, sa5, lq⟩ := hcut
          replace b1 := b1.keep lq
          replace lw := Later.trans_ lw lq
          replace x2 := x2.keep lq
          replace x3 := x3.keep lq
          replace sw3 := sw3.keep lq
          replace sa3 := sa3.keep lq
          replace x4 := x4.keep lq
          clear lq
          clear sw5 sa5
          go_upto_region 8 with fail
          go_cut [6] (fun q wx => ∃ g AW cw AA ca, q = .pointer (some ⟨g, 0, none⟩) ∧ Blk wx g 38 (sB (Zs 1) (.slice AW (rW (Zs 1)).ws.length cw) (.slice AA (rW (Zs 1)).ac.length ca)).eff ∧ Sl wx 3 AW (rW (Zs 1)).ws.length (Ws (rW (Zs 1)).ws) ∧ Sl wx 3 AA (rW (Zs 1)).ac.length (Acs (rW (Zs 1)).ac) ∧ Later wc wx)
          case first => as_aux_lemma =>
            replace b1 := b1.drew
            have lq := Below.drew (later0 wc)
            have hmk := fun w' => mk_page w'
            refine wp_region_held_drew (S := fun w' => w'.rangeAt w1.heap.size 0 x0.cells) (by kernel_rfl) (show World.rangeAt _ w1.heap.size 0 x0.cells from b1.range 0 30) (fun hHeld => ?_)
            refine wpAnyH_take (i := 0) (oi := ⟨some 34, .load 26 (.tmp 1), _, _, _, none⟩) (v := .agg x0.cells.toArray) rfl (by kernel_rfl) (by kernel_rfl) (by kernel_rfl) (fun _ _ _ h => h) (yieldsIf_load_mid (by rfl) _ _ rfl _ _ rfl x0.cells _ (fun w h => h) Tryz.underlying26 rfl (cpu_sz _)) hHeld ?_
            simp only [Act.put, List.setIfInBounds_toArray, List.set_cons_zero, List.set_cons_succ]
            refine wpAnyH_ready (rs := [1, 4]) (by kernel_rfl) (by simp) (AllReadyH.cons (o := ⟨some 35, .makeSlice 27 (.const (.int .i64 1)) (.const (.int .i64 1)), _, _, _, none⟩) rfl (fun K' hK => ?_) (AllReadyH.cons (o := ⟨some 6, .alloc 38, _, _, _, none⟩) rfl (fun K' hK => ?_) AllReadyH.nil))
            · go_simp
              have s1 : Sl (World.alloc wc.drew (.cells (madeCells (Array.replicate 128 (.int .u8 0)) 128) 55)) 128 (some ⟨wc.heap.size, 0, none⟩) 1 (U (Zs 1)) := (draft_new (n := 1) (by simp)).sl
              replace b1 := b1.alloc (.cells (madeCells (Array.replicate 128 (.int .u8 0)) 128) 55)
              replace lq := lq.alloc lq.size (.cells (madeCells (Array.replicate 128 (.int .u8 0)) 128) 55)
              refine hK.out _ _ (show World.rangeAt _ w1.heap.size 0 x0.cells from b1.range 0 30) (fun hHeld => ?_)
              clear hK K'
              try simp only [Act.put, List.setIfInBounds_toArray, List.set_cons_zero, List.set_cons_succ]
              refine wpAnyH_take (i := 2) (oi := ⟨some 36, .build 29 #[(0, .tmp 35)], _, _, _, none⟩) (v := .agg #[.slice (some ⟨wc.heap.size, 0, none⟩) 1 1]) rfl (by kernel_rfl) (by kernel_rfl) (by kernel_rfl) (fun _ _ _ h => h) (Or.inl ⟨by rfl, fun w _ => by go_simp⟩) hHeld ?_
              simp only [Act.put, List.setIfInBounds_toArray, List.set_cons_zero, List.set_cons_succ]
              refine wpAnyH_ready (rs := [3, 4]) (by kernel_rfl) (by simp) (AllReadyH.cons (o := ⟨some 37, .call { callee := .value (.func 13), args := #[.tmp 34, .tmp 36, .const (.int .u32 0)], argTypes := #[26, 29, 22] }, _, _, _, none⟩) rfl (fun K' hK => ?_) (AllReadyH.cons (o := ⟨some 6, .alloc 38, _, _, _, none⟩) rfl (fun K' hK => ?_) AllReadyH.nil))
              · go_simp
                refine (HST.out (Zs 1) _ _ 1 s1 (Zs_bs 1) (Later.trans_ lw lq)).mono ?_
                rintro e u2 ⟨v1, a1, rfl, k1, k2, l1⟩
                obtain ⟨AW, cw, rfl, sw, hw⟩ := own4 k1
                obtain ⟨AA, ca, rfl, sa, ha⟩ := own4 k2
                clear k1 k2 s1
                replace b1 := b1.keep l1
                replace lq := Later.trans_ lq l1
                clear l1
                refine hK.out _ _ (show World.rangeAt _ w1.heap.size 0 x0.cells from b1.range 0 30) (fun hHeld => ?_)
                clear hK K'
                try simp only [Act.put, List.setIfInBounds_toArray, List.set_cons_zero, List.set_cons_succ]
                refine wpAnyH_ready (rs := [4]) (by kernel_rfl) (by simp) (AllReadyH.cons (o := ⟨some 6, .alloc 38, _, _, _, none⟩) rfl (fun K' hK => ?_) AllReadyH.nil)
                go_simp
                have n2 : w1.heap.size ≠ u2.heap.size := (by have := b1.lt; simpa using Nat.ne_of_lt this)
                have m2 : wc.heap.size ≤ u2.heap.size := (by have := lq.size; simpa using this)
                have bN : Blk (World.alloc u2 (.cells zS.eff.toArray 38)) (u2.heap.size) 38 zS.eff := Blk.new' u2 (u2.heap.size) 38 _ zS.eff (by simp) rfl
                replace b1 := b1.alloc (.cells zS.eff.toArray 38)
                replace lq := lq.alloc lq.size (.cells zS.eff.toArray 38)
                replace sw := sw.alloc (.cells zS.eff.toArray 38)
                replace sa := sa.alloc (.cells zS.eff.toArray 38)
                refine hK.out _ _ (show World.rangeAt _ w1.heap.size 0 x0.cells from b1.range 0 30) (fun hHeld => ?_)
                clear hK K'
                try simp only [Act.put, List.setIfInBounds_toArray, List.set_cons_zero, List.set_cons_succ]
                refine wpAnyH_ready (rs := [5]) (by kernel_rfl) (by simp) (AllReadyH.cons (o := ⟨none, .store 38 (.tmp 6) (.tmp 37), _, _, _, none⟩) rfl (fun K' hK => ?_) AllReadyH.nil)
                refine wp_store_abs 38 _ _ rfl (u2.heap.size) 38 zS.eff (sB (Zs 1) (.slice AW (rW (Zs 1)).ws.length cw) (.slice AA (rW (Zs 1)).ac.length ca)).eff rfl rfl bN (eff_sz _) rfl (eff_one _ rfl rfl) ?_
                intro wq2 bq oq
                replace b1 := b1.only oq n2
                replace lq := Below.only lq oq m2
                replace sw := sw.only3 oq (fun ad e => (by have := hw ad e; omega))
                replace sa := sa.only3 oq (fun ad e => (by have := ha ad e; omega))
                clear bN oq
                refine hK.out _ _ (show World.rangeAt _ w1.heap.size 0 x0.cells from b1.range 0 30) (fun hHeld => ?_)
                clear hK K'
                try simp only [Act.put]
                refine wpAnyH_done (by kernel_rfl) ?_ _
                clear hHeld
                go_wp2
                go_meet
                exact ⟨_, _, _, _, _, rfl, bq, sw, sa, lq⟩
              · go_simp
                have n2 : w1.heap.size ≠ wc.heap.size + 1 := (by have := b1.lt; simpa using Nat.ne_of_lt this)
                have m2 : wc.heap.size ≤ wc.heap.size + 1 := Nat.le_succ _
                have bN : Blk (World.alloc (World.alloc wc.drew (.cells (madeCells (Array.replicate 128 (.int .u8 0)) 128) 55)) (.cells zS.eff.toArray 38)) (wc.heap.size + 1) 38 zS.eff := Blk.new' (World.alloc wc.drew (.cells (madeCells (Array.replicate 128 (.int .u8 0)) 128) 55)) (wc.heap.size + 1) 38 _ zS.eff (by simp) rfl
                replace b1 := b1.alloc (.cells zS.eff.toArray 38)
                replace lq := lq.alloc lq.size (.cells zS.eff.toArray 38)
                replace s1 := s1.alloc (.cells zS.eff.toArray 38)
                refine hK.out _ _ (show World.rangeAt _ w1.heap.size 0 x0.cells from b1.range 0 30) (fun hHeld => ?_)
                clear hK K'
                try simp only [Act.put, List.setIfInBounds_toArray, List.set_cons_zero, List.set_cons_succ]
                refine wpAnyH_ready (rs := [3]) (by kernel_rfl) (by simp) (AllReadyH.cons (o := ⟨some 37, .call { callee := .value (.func 13), args := #[.tmp 34, .tmp 36, .const (.int .u32 0)], argTypes := #[26, 29, 22] }, _, _, _, none⟩) rfl (fun K' hK => ?_) AllReadyH.nil)
                go_simp
                refine (HST.out (Zs 1) _ _ 1 s1 (Zs_bs 1) (Later.trans_ lw lq)).mono ?_
                have gN := bN.lt
                rintro e u2 ⟨v1, a1, rfl, k1, k2, l1⟩
                obtain ⟨AW, cw, rfl, sw, hw⟩ := own4 k1
                obtain ⟨AA, ca, rfl, sa, ha⟩ := own4 k2
                clear k1 k2 s1
                replace b1 := b1.keep l1
                replace lq := Later.trans_ lq l1
                replace bN := bN.keep l1
                clear l1
                refine hK.out _ _ (show World.rangeAt _ w1.heap.size 0 x0.cells from b1.range 0 30) (fun hHeld => ?_)
                clear hK K'
                try simp only [Act.put, List.setIfInBounds_toArray, List.set_cons_zero, List.set_cons_succ]
                refine wpAnyH_ready (rs := [5]) (by kernel_rfl) (by simp) (AllReadyH.cons (o := ⟨none, .store 38 (.tmp 6) (.tmp 37), _, _, _, none⟩) rfl (fun K' hK => ?_) AllReadyH.nil)
                refine wp_store_abs 38 _ _ rfl (wc.heap.size + 1) 38 zS.eff (sB (Zs 1) (.slice AW (rW (Zs 1)).ws.length cw) (.slice AA (rW (Zs 1)).ac.length ca)).eff rfl rfl bN (eff_sz _) rfl (eff_one _ rfl rfl) ?_
                intro wq2 bq oq
                replace b1 := b1.only oq n2
                replace lq := Below.only lq oq m2
                replace sw := sw.only3 oq (fun ad e => (by have := hw ad e; omega))
                replace sa := sa.only3 oq (fun ad e => (by have := ha ad e; omega))
                clear bN oq
                refine hK.out _ _ (show World.rangeAt _ w1.heap.size 0 x0.cells from b1.range 0 30) (fun hHeld => ?_)
                clear hK K'
                try simp only [Act.put]
                refine wpAnyH_done (by kernel_rfl) ?_ _
                clear hHeld
                go_wp2
                go_meet
                exact ⟨_, _, _, _, _, rfl, bq, sw, sa, lq⟩
            · go_simp
              have n2 : w1.heap.size ≠ wc.heap.size := (by have := b1.lt; simpa using Nat.ne_of_lt this)
              have m2 : wc.heap.size ≤ wc.heap.size := Nat.le_refl _
              have bN : Blk (World.alloc wc.drew (.cells zS.eff.toArray 38)) (wc.heap.size) 38 zS.eff := Blk.new' wc.drew (wc.heap.size) 38 _ zS.eff (by simp) rfl
              replace b1 := b1.alloc (.cells zS.eff.toArray 38)
              replace lq := lq.alloc lq.size (.cells zS.eff.toArray 38)
              refine hK.out _ _ (show World.rangeAt _ w1.heap.size 0 x0.cells from b1.range 0 30) (fun hHeld => ?_)
              clear hK K'
              try simp only [Act.put, List.setIfInBounds_toArray, List.set_cons_zero, List.set_cons_succ]
              refine wpAnyH_ready (rs := [1]) (by kernel_rfl) (by simp) (AllReadyH.cons (o := ⟨some 35, .makeSlice 27 (.const (.int .i64 1)) (.const (.int .i64 1)), _, _, _, none⟩) rfl (fun K' hK => ?_) AllReadyH.nil)
              go_simp
              have s1 : Sl (World.alloc (World.alloc wc.drew (.cells zS.eff.toArray 38)) (.cells (madeCells (Array.replicate 128 (.int .u8 0)) 128) 55)) 128 (some ⟨wc.heap.size + 1, 0, none⟩) 1 (U (Zs 1)) := (draft_new (n := 1) (by simp)).sl
              replace b1 := b1.alloc (.cells (madeCells (Array.replicate 128 (.int .u8 0)) 128) 55)
              replace lq := lq.alloc lq.size (.cells (madeCells (Array.replicate 128 (.int .u8 0)) 128) 55)
              replace bN := bN.alloc (.cells (madeCells (Array.replicate 128 (.int .u8 0)) 128) 55)
              refine hK.out _ _ (show World.rangeAt _ w1.heap.size 0 x0.cells from b1.range 0 30) (fun hHeld => ?_)
              clear hK K'
              try simp only [Act.put, List.setIfInBounds_toArray, List.set_cons_zero, List.set_cons_succ]
              refine wpAnyH_take (i := 2) (oi := ⟨some 36, .build 29 #[(0, .tmp 35)], _, _, _, none⟩) (v := .agg #[.slice (some ⟨wc.heap.size + 1, 0, none⟩) 1 1]) rfl (by kernel_rfl) (by kernel_rfl) (by kernel_rfl) (fun _ _ _ h => h) (Or.inl ⟨by rfl, fun w _ => by go_simp⟩) hHeld ?_
              simp only [Act.put, List.setIfInBounds_toArray, List.set_cons_zero, List.set_cons_succ]
              refine wpAnyH_ready (rs := [3]) (by kernel_rfl) (by simp) (AllReadyH.cons (o := ⟨some 37, .call { callee := .value (.func 13), args := #[.tmp 34, .tmp 36, .const (.int .u32 0)], argTypes := #[26, 29, 22] }, _, _, _, none⟩) rfl (fun K' hK => ?_) AllReadyH.nil)
              go_simp
              refine (HST.out (Zs 1) _ _ 1 s1 (Zs_bs 1) (Later.trans_ lw lq)).mono ?_
              have gN := bN.lt
              rintro e u2 ⟨v1, a1, rfl, k1, k2, l1⟩
              obtain ⟨AW, cw, rfl, sw, hw⟩ := own4 k1
              obtain ⟨AA, ca, rfl, sa, ha⟩ := own4 k2
              clear k1 k2 s1
              replace b1 := b1.keep l1
              replace lq := Later.trans_ lq l1
              replace bN := bN.keep l1
              clear l1
              refine hK.out _ _ (show World.rangeAt _ w1.heap.size 0 x0.cells from b1.range 0 30) (fun hHeld => ?_)
              clear hK K'
              try simp only [Act.put, List.setIfInBounds_toArray, List.set_cons_zero, List.set_cons_succ]
              refine wpAnyH_ready (rs := [5]) (by kernel_rfl) (by simp) (AllReadyH.cons (o := ⟨none, .store 38 (.tmp 6) (.tmp 37), _, _, _, none⟩) rfl (fun K' hK => ?_) AllReadyH.nil)
              refine wp_store_abs 38 _ _ rfl (wc.heap.size) 38 zS.eff (sB (Zs 1) (.slice AW (rW (Zs 1)).ws.length cw) (.slice AA (rW (Zs 1)).ac.length ca)).eff rfl rfl bN (eff_sz _) rfl (eff_one _ rfl rfl) ?_
              intro wq2 bq oq
              replace b1 := b1.only oq n2
              replace lq := Below.only lq oq m2
              replace sw := sw.only3 oq (fun ad e => (by have := hw ad e; omega))
              replace sa := sa.only3 oq (fun ad e => (by have := ha ad e; omega))
              clear bN oq
              refine hK.out _ _ (show World.rangeAt _ w1.heap.size 0 x0.cells from b1.range 0 30) (fun hHeld => ?_)
              clear hK K'
              try simp only [Act.put]
              refine wpAnyH_done (by kernel_rfl) ?_ _
              clear hHeld
              go_wp2
              go_meet
              exact ⟨_, _, _, _, _, rfl, bq, sw, sa, lq⟩
          case rest =>
            obtain ⟨g6, p6, q6, r6, t6, rfl, x6, sw6, sa6, lq⟩ := hcut
            replace b1 := b1.keep lq
            replace lw := Later.trans_ lw lq
            replace x2 := x2.keep lq
            replace x3 := x3.keep lq
            replace sw3 := sw3.keep lq
            replace sa3 := sa3.keep lq
            replace x4 := x4.keep lq
            replace x5 := x5.keep lq
            clear lq
            clear sw6 sa6
            go_upto_region 9 with fail
            go_cut [7] (fun q wx => ∃ g AW cw AA ca, q = .pointer (some ⟨g, 0, none⟩) ∧ Blk wx g 38 (sB bC (.slice AW (rW bC).ws.length cw) (.slice AA (rW bC).ac.length ca)).eff ∧ Sl wx 3 AW (rW bC).ws.length (Ws (rW bC).ws) ∧ Sl wx 3 AA (rW bC).ac.length (Acs (rW bC).ac) ∧ Later wc wx)
            case first => as_aux_lemma =>
              replace b1 := b1.drew
              have lq := Below.drew (later0 wc)
              refine wp_region_held_drew (S := fun w' => w'.rangeAt w1.heap.size 0 x0.cells) (by kernel_rfl) (show World.rangeAt _ w1.heap.size 0 x0.cells from b1.range 0 30) (fun hHeld => ?_)
              refine wpAnyH_take (i := 0) (oi := ⟨some 38, .load 26 (.tmp 1), _, _, _, none⟩) (v := .agg x0.cells.toArray) rfl (by kernel_rfl) (by kernel_rfl) (by kernel_rfl) (fun _ _ _ h => h) (yieldsIf_load_mid (by rfl) _ _ rfl _ _ rfl x0.cells _ (fun w h => h) Tryz.underlying26 rfl (cpu_sz _)) hHeld ?_
              simp only [Act.put, List.setIfInBounds_toArray, List.set_cons_zero, List.set_cons_succ]
              refine wpAnyH_take (i := 1) (oi := ⟨some 39, .build 70 #[(0, .const (.int .i64 40))], _, _, _, none⟩) (v := .agg #[.int .i64 40, .int .i64 0, .int .i64 0, .int .i64 0, .int .i64 0]) rfl (by kernel_rfl) (by kernel_rfl) (by kernel_rfl) (fun _ _ _ h => h) (Or.inl ⟨by rfl, fun w _ => by go_simp⟩) hHeld ?_
              simp only [Act.put, List.setIfInBounds_toArray, List.set_cons_zero, List.set_cons_succ]
              refine wpAnyH_ready (rs := [2, 4]) (by kernel_rfl) (by simp) (AllReadyH.cons (o := ⟨some 40, .call { callee := .value (.func 32), args := #[.tmp 39], argTypes := #[70] }, _, _, _, none⟩) rfl (fun K' hK => ?_) (AllReadyH.cons (o := ⟨some 7, .alloc 38, _, _, _, none⟩) rfl (fun K' hK => ?_) AllReadyH.nil))
              · go_simp
                refine (HbC.out _).mono ?_
                rintro e u1 ⟨A1, c1, rfl, s1, l1⟩
                replace b1 := b1.keep l1
                replace lq := Later.trans_ lq l1
                clear l1
                refine hK.out _ _ (show World.rangeAt _ w1.heap.size 0 x0.cells from b1.range 0 30) (fun hHeld => ?_)
                clear hK K'
                try simp only [Act.put, List.setIfInBounds_toArray, List.set_cons_zero, List.set_cons_succ]
                refine wpAnyH_ready (rs := [3, 4]) (by kernel_rfl) (by simp) (AllReadyH.cons (o := ⟨some 41, .call { callee := .value (.func 13), args := #[.tmp 38, .tmp 40, .const (.int .u32 0)], argTypes := #[26, 29, 22] }, _, _, _, none⟩) rfl (fun K' hK => ?_) (AllReadyH.cons (o := ⟨some 7, .alloc 38, _, _, _, none⟩) rfl (fun K' hK => ?_) AllReadyH.nil))
                · go_simp
                  refine (HST.out bC _ A1 c1 s1 (bC_bs) (Later.trans_ lw lq)).mono ?_
                  rintro e u2 ⟨v1, a1, rfl, k1, k2, l1⟩
                  obtain ⟨AW, cw, rfl, sw, hw⟩ := own4 k1
                  obtain ⟨AA, ca, rfl, sa, ha⟩ := own4 k2
                  clear k1 k2 s1
                  replace b1 := b1.keep l1
                  replace lq := Later.trans_ lq l1
                  clear l1
                  refine hK.out _ _ (show World.rangeAt _ w1.heap.size 0 x0.cells from b1.range 0 30) (fun hHeld => ?_)
                  clear hK K'
                  try simp only [Act.put, List.setIfInBounds_toArray, List.set_cons_zero, List.set_cons_succ]
                  refine wpAnyH_ready (rs := [4]) (by kernel_rfl) (by simp) (AllReadyH.cons (o := ⟨some 7, .alloc 38, _, _, _, none⟩) rfl (fun K' hK => ?_) AllReadyH.nil)
                  go_simp
                  have n2 := Nat.ne_of_lt b1.lt
                  have m2 := lq.size
                  have bN := Blk.new u2 38 _ zS.eff rfl
                  replace b1 := b1.alloc (.cells zS.eff.toArray 38)
                  replace lq := lq.alloc m2 (.cells zS.eff.toArray 38)
                  replace sw := sw.alloc (.cells zS.eff.toArray 38)
                  replace sa := sa.alloc (.cells zS.eff.toArray 38)
                  refine hK.out _ _ (show World.rangeAt _ w1.heap.size 0 x0.cells from b1.range 0 30) (fun hHeld => ?_)
                  clear hK K'
                  try simp only [Act.put, List.setIfInBounds_toArray, List.set_cons_zero, List.set_cons_succ]
                  refine wpAnyH_ready (rs := [5]) (by kernel_rfl) (by simp) (AllReadyH.cons (o := ⟨none, .store 38 (.tmp 7) (.tmp 41), _, _, _, none⟩) rfl (fun K' hK => ?_) AllReadyH.nil)
                  refine wp_store_abs 38 _ _ rfl u2.heap.size 38 zS.eff (sB bC (.slice AW (rW bC).ws.length cw) (.slice AA (rW bC).ac.length ca)).eff rfl rfl bN (eff_sz _) rfl (eff_one _ rfl rfl) ?_
                  intro wq2 bq oq
                  replace b1 := b1.only oq n2
                  replace lq := Below.only lq oq m2
                  replace sw := sw.only3 oq (fun ad e => (by have := hw ad e; omega))
                  replace sa := sa.only3 oq (fun ad e => (by have := ha ad e; omega))
                  clear bN oq
                  refine hK.out _ _ (show World.rangeAt _ w1.heap.size 0 x0.cells from b1.range 0 30) (fun hHeld => ?_)
                  clear hK K'
                  try simp only [Act.put]
                  refine wpAnyH_done (by kernel_rfl) ?_ _
                  clear hHeld
                  go_wp2
                  go_meet
                  exact ⟨_, _, _, _, _, rfl, bq, sw, sa, lq⟩
                · go_simp
                  have n2 := Nat.ne_of_lt b1.lt
                  have m2 := lq.size
                  have bN := Blk.new u1 38 _ zS.eff rfl
                  replace b1 := b1.alloc (.cells zS.eff.toArray 38)
                  replace lq := lq.alloc m2 (.cells zS.eff.toArray 38)
                  replace s1 := s1.alloc (.cells zS.eff.toArray 38)
                  refine hK.out _ _ (show World.rangeAt _ w1.heap.size 0 x0.cells from b1.range 0 30) (fun hHeld => ?_)
                  clear hK K'
                  try simp only [Act.put, List.setIfInBounds_toArray, List.set_cons_zero, List.set_cons_succ]
                  refine wpAnyH_ready (rs := [3]) (by kernel_rfl) (by simp) (AllReadyH.cons (o := ⟨some 41, .call { callee := .value (.func 13), args := #[.tmp 38, .tmp 40, .const (.int .u32 0)], argTypes := #[26, 29, 22] }, _, _, _, none⟩) rfl (fun K' hK => ?_) AllReadyH.nil)
                  go_simp
                  refine (HST.out bC _ A1 c1 s1 (bC_bs) (Later.trans_ lw lq)).mono ?_
                  have gN := bN.lt
                  rintro e u2 ⟨v1, a1, rfl, k1, k2, l1⟩
                  obtain ⟨AW, cw, rfl, sw, hw⟩ := own4 k1
                  obtain ⟨AA, ca, rfl, sa, ha⟩ := own4 k2
                  clear k1 k2 s1
                  replace b1 := b1.keep l1
                  replace lq := Later.trans_ lq l1
                  replace bN := bN.keep l1
                  clear l1
                  refine hK.out _ _ (show World.rangeAt _ w1.heap.size 0 x0.cells from b1.range 0 30) (fun hHeld => ?_)
                  clear hK K'
                  try simp only [Act.put, List.setIfInBounds_toArray, List.set_cons_zero, List.set_cons_succ]
                  refine wpAnyH_ready (rs := [5]) (by kernel_rfl) (by simp) (AllReadyH.cons (o := ⟨none, .store 38 (.tmp 7) (.tmp 41), _, _, _, none⟩) rfl (fun K' hK => ?_) AllReadyH.nil)
                  refine wp_store_abs 38 _ _ rfl u1.heap.size 38 zS.eff (sB bC (.slice AW (rW bC).ws.length cw) (.slice AA (rW bC).ac.length ca)).eff rfl rfl bN (eff_sz _) rfl (eff_one _ rfl rfl) ?_
                  intro wq2 bq oq
                  replace b1 := b1.only oq n2
                  replace lq := Below.only lq oq m2
                  replace sw := sw.only3 oq (fun ad e => (by have := hw ad e; omega))
                  replace sa := sa.only3 oq (fun ad e => (by have := ha ad e; omega))
                  clear bN oq
                  refine hK.out _ _ (show World.rangeAt _ w1.heap.size 0 x0.cells from b1.range 0 30) (fun hHeld => ?_)
                  clear hK K'
                  try simp only [Act.put]
                  refine wpAnyH_done (by kernel_rfl) ?_ _
                  clear hHeld
                  go_wp2
                  go_meet
                  exact ⟨_, _, _, _, _, rfl, bq, sw, sa, lq⟩
              · go_simp
                have n2 := Nat.ne_of_lt b1.lt
                have m2 := lq.size
                have bN := Blk.new wc.drew 38 _ zS.eff rfl
                replace b1 := b1.alloc (.cells zS.eff.toArray 38)
                replace lq := lq.alloc m2 (.cells zS.eff.toArray 38)
                refine hK.out _ _ (show World.rangeAt _ w1.heap.size 0 x0.cells from b1.range 0 30) (fun hHeld => ?_)
                clear hK K'
                try simp only [Act.put, List.setIfInBounds_toArray, List.set_cons_zero, List.set_cons_succ]
                refine wpAnyH_ready (rs := [2]) (by kernel_rfl) (by simp) (AllReadyH.cons (o := ⟨some 40, .call { callee := .value (.func 32), args := #[.tmp 39], argTypes := #[70] }, _, _, _, none⟩) rfl (fun K' hK => ?_) AllReadyH.nil)
                go_simp
                refine (HbC.out _).mono ?_
                rintro e u1 ⟨A1, c1, rfl, s1, l1⟩
                replace b1 := b1.keep l1
                replace lq := Later.trans_ lq l1
                replace bN := bN.keep l1
                clear l1
                refine hK.out _ _ (show World.rangeAt _ w1.heap.size 0 x0.cells from b1.range 0 30) (fun hHeld => ?_)
                clear hK K'
                try simp only [Act.put, List.setIfInBounds_toArray, List.set_cons_zero, List.set_cons_succ]
                refine wpAnyH_ready (rs := [3]) (by kernel_rfl) (by simp) (AllReadyH.cons (o := ⟨some 41, .call { callee := .value (.func 13), args := #[.tmp 38, .tmp 40, .const (.int .u32 0)], argTypes := #[26, 29, 22] }, _, _, _, none⟩) rfl (fun K' hK => ?_) AllReadyH.nil)
                go_simp
                refine (HST.out bC _ A1 c1 s1 (bC_bs) (Later.trans_ lw lq)).mono ?_
                have gN := bN.lt
                rintro e u2 ⟨v1, a1, rfl, k1, k2, l1⟩
                obtain ⟨AW, cw, rfl, sw, hw⟩ := own4 k1
                obtain ⟨AA, ca, rfl, sa, ha⟩ := own4 k2
                clear k1 k2 s1
                replace b1 := b1.keep l1
                replace lq := Later.trans_ lq l1
                replace bN := bN.keep l1
                clear l1
                refine hK.out _ _ (show World.rangeAt _ w1.heap.size 0 x0.cells from b1.range 0 30) (fun hHeld => ?_)
                clear hK K'
                try simp only [Act.put, List.setIfInBounds_toArray, List.set_cons_zero, List.set_cons_succ]
                refine wpAnyH_ready (rs := [5]) (by kernel_rfl) (by simp) (AllReadyH.cons (o := ⟨none, .store 38 (.tmp 7) (.tmp 41), _, _, _, none⟩) rfl (fun K' hK => ?_) AllReadyH.nil)
                refine wp_store_abs 38 _ _ rfl wc.heap.size 38 zS.eff (sB bC (.slice AW (rW bC).ws.length cw) (.slice AA (rW bC).ac.length ca)).eff rfl rfl bN (eff_sz _) rfl (eff_one _ rfl rfl) ?_
                intro wq2 bq oq
                replace b1 := b1.only oq n2
                replace lq := Below.only lq oq m2
                replace sw := sw.only3 oq (fun ad e => (by have := hw ad e; omega))
                replace sa := sa.only3 oq (fun ad e => (by have := ha ad e; omega))
                clear bN oq
                refine hK.out _ _ (show World.rangeAt _ w1.heap.size 0 x0.cells from b1.range 0 30) (fun hHeld => ?_)
                clear hK K'
                try simp only [Act.put]
                refine wpAnyH_done (by kernel_rfl) ?_ _
                clear hHeld
                go_wp2
                go_meet
                exact ⟨_, _, _, _, _, rfl, bq, sw, sa, lq⟩
            case rest =>
              obtain ⟨g7, p7, q7, r7, t7, rfl, x7, sw7, sa7, lq⟩ := hcut
              replace b1 := b1.keep lq
              replace lw := Later.trans_ lw lq
              replace x2 := x2.keep lq
              replace x3 := x3.keep lq
              replace sw3 := sw3.keep lq
              replace sa3 := sa3.keep lq
              replace x4 := x4.keep lq
              replace x5 := x5.keep lq
              replace x6 := x6.keep lq
              clear lq
              clear sw7 sa7
              go_upto_region 10 with fail
              go_cut [8] (fun q wx => ∃ g AW cw AA ca, q = .pointer (some ⟨g, 0, none⟩) ∧ Blk wx g 38 (sB bI (.slice AW (rW bI).ws.length cw) (.slice AA (rW bI).ac.length ca)).eff ∧ Sl wx 3 AW (rW bI).ws.length (Ws (rW bI).ws) ∧ Sl wx 3 AA (rW bI).ac.length (Acs (rW bI).ac) ∧ Later wc wx)
              case first => as_aux_lemma =>
                replace b1 := b1.drew
                have lq := Below.drew (later0 wc)
                refine wp_region_held_drew (S := fun w' => w'.rangeAt w1.heap.size 0 x0.cells) (by kernel_rfl) (show World.rangeAt _ w1.heap.size 0 x0.cells from b1.range 0 30) (fun hHeld => ?_)
                refine wpAnyH_take (i := 0) (oi := ⟨some 42, .load 26 (.tmp 1), _, _, _, none⟩) (v := .agg x0.cells.toArray) rfl (by kernel_rfl) (by kernel_rfl) (by kernel_rfl) (fun _ _ _ h => h) (yieldsIf_load_mid (by rfl) _ _ rfl _ _ rfl x0.cells _ (fun w h => h) Tryz.underlying26 rfl (cpu_sz _)) hHeld ?_
                simp only [Act.put, List.setIfInBounds_toArray, List.set_cons_zero, List.set_cons_succ]
                refine wpAnyH_take (i := 1) (oi := ⟨some 43, .build 70 #[(0, .const (.int .i64 46)), (1, .const (.int .i64 1)), (4, .const (.int .i64 33))], _, _, _, none⟩) (v := .agg #[.int .i64 46, .int .i64 1, .int .i64 0, .int .i64 0, .int .i64 33]) rfl (by kernel_rfl) (by kernel_rfl) (by kernel_rfl) (fun _ _ _ h => h) (Or.inl ⟨by rfl, fun w _ => by go_simp⟩) hHeld ?_
                simp only [Act.put, List.setIfInBounds_toArray, List.set_cons_zero, List.set_cons_succ]
                refine wpAnyH_ready (rs := [2, 4]) (by kernel_rfl) (by simp) (AllReadyH.cons (o := ⟨some 44, .call { callee := .value (.func 32), args := #[.tmp 43], argTypes := #[70] }, _, _, _, none⟩) rfl (fun K' hK => ?_) (AllReadyH.cons (o := ⟨some 8, .alloc 38, _, _, _, none⟩) rfl (fun K' hK => ?_) AllReadyH.nil))
                · go_simp
                  refine (HbI.out _).mono ?_
                  rintro e u1 ⟨A1, c1, rfl, s1, l1⟩
                  replace b1 := b1.keep l1
                  replace lq := Later.trans_ lq l1
                  clear l1
                  refine hK.out _ _ (show World.rangeAt _ w1.heap.size 0 x0.cells from b1.range 0 30) (fun hHeld => ?_)
                  clear hK K'
                  try simp only [Act.put, List.setIfInBounds_toArray, List.set_cons_zero, List.set_cons_succ]
                  refine wpAnyH_ready (rs := [3, 4]) (by kernel_rfl) (by simp) (AllReadyH.cons (o := ⟨some 45, .call { callee := .value (.func 13), args := #[.tmp 42, .tmp 44, .const (.int .u32 0)], argTypes := #[26, 29, 22] }, _, _, _, none⟩) rfl (fun K' hK => ?_) (AllReadyH.cons (o := ⟨some 8, .alloc 38, _, _, _, none⟩) rfl (fun K' hK => ?_) AllReadyH.nil))
                  · go_simp
                    refine (HST.out bI _ A1 c1 s1 (bI_bs) (Later.trans_ lw lq)).mono ?_
                    rintro e u2 ⟨v1, a1, rfl, k1, k2, l1⟩
                    obtain ⟨AW, cw, rfl, sw, hw⟩ := own4 k1
                    obtain ⟨AA, ca, rfl, sa, ha⟩ := own4 k2
                    clear k1 k2 s1
                    replace b1 := b1.keep l1
                    replace lq := Later.trans_ lq l1
                    clear l1
                    refine hK.out _ _ (show World.rangeAt _ w1.heap.size 0 x0.cells from b1.range 0 30) (fun hHeld => ?_)
                    clear hK K'
                    try simp only [Act.put, List.setIfInBounds_toArray, List.set_cons_zero, List.set_cons_succ]
                    refine wpAnyH_ready (rs := [4]) (by kernel_rfl) (by simp) (AllReadyH.cons (o := ⟨some 8, .alloc 38, _, _, _, none⟩) rfl (fun K' hK => ?_) AllReadyH.nil)
                    go_simp
                    have n2 := Nat.ne_of_lt b1.lt
                    have m2 := lq.size
                    have bN := Blk.new u2 38 _ zS.eff rfl
                    replace b1 := b1.alloc (.cells zS.eff.toArray 38)
                    replace lq := lq.alloc m2 (.cells zS.eff.toArray 38)
                    replace sw := sw.alloc (.cells zS.eff.toArray 38)
                    replace sa := sa.alloc (.cells zS.eff.toArray 38)
                    refine hK.out _ _ (show World.rangeAt _ w1.heap.size 0 x0.cells from b1.range 0 30) (fun hHeld => ?_)
                    clear hK K'
                    try simp only [Act.put, List.setIfInBounds_toArray, List.set_cons_zero, List.set_cons_succ]
                    refine wpAnyH_ready (rs := [5]) (by kernel_rfl) (by simp) (AllReadyH.cons (o := ⟨none, .store 38 (.tmp 8) (.tmp 45), _, _, _, none⟩) rfl (fun K' hK => ?_) AllReadyH.nil)
                    refine wp_store_abs 38 _ _ rfl u2.heap.size 38 zS.eff (sB bI (.slice AW (rW bI).ws.length cw) (.slice AA (rW bI).ac.length ca)).eff rfl rfl bN (eff_sz _) rfl (eff_one _ rfl rfl) ?_
                    intro wq2 bq oq
                    replace b1 := b1.only oq n2
                    replace lq := Below.only lq oq m2
                    replace sw := sw.only3 oq (fun ad e => (by have := hw ad e; omega))
                    replace sa := sa.only3 oq (fun ad e => (by have := ha ad e; omega))
                    clear bN oq
                    refine hK.out _ _ (show World.rangeAt _ w1.heap.size 0 x0.cells from b1.range 0 30) (fun hHeld => ?_)
                    clear hK K'
                    try simp only [Act.put]
                    refine wpAnyH_done (by kernel_rfl) ?_ _
                    clear hHeld
                    go_wp2
                    go_meet
                    exact ⟨_, _, _, _, _, rfl, bq, sw, sa, lq⟩
                  · go_simp
                    have n2 := Nat.ne_of_lt b1.lt
                    have m2 := lq.size
                    have bN := Blk.new u1 38 _ zS.eff rfl
                    replace b1 := b1.alloc (.cells zS.eff.toArray 38)
                    replace lq := lq.alloc m2 (.cells zS.eff.toArray 38)
                    replace s1 := s1.alloc (.cells zS.eff.toArray 38)
                    refine hK.out _ _ (show World.rangeAt _ w1.heap.size 0 x0.cells from b1.range 0 30) (fun hHeld => ?_)
                    clear hK K'
                    try simp only [Act.put, List.setIfInBounds_toArray, List.set_cons_zero, List.set_cons_succ]
                    refine wpAnyH_ready (rs := [3]) (by kernel_rfl) (by simp) (AllReadyH.cons (o := ⟨some 45, .call { callee := .value (.func 13), args := #[.tmp 42, .tmp 44, .const (.int .u32 0)], argTypes := #[26, 29, 22] }, _, _, _, none⟩) rfl (fun K' hK => ?_) AllReadyH.nil)
                    go_simp
                    refine (HST.out bI _ A1 c1 s1 (bI_bs) (Later.trans_ lw lq)).mono ?_
                    have gN := bN.lt
                    rintro e u2 ⟨v1, a1, rfl, k1, k2, l1⟩
                    obtain ⟨AW, cw, rfl, sw, hw⟩ := own4 k1
                    obtain ⟨AA, ca, rfl, sa, ha⟩ := own4 k2
                    clear k1 k2 s1
                    replace b1 := b1.keep l1
                    replace lq := Later.trans_ lq l1
                    replace bN := bN.keep l1
                    clear l1
                    refine hK.out _ _ (show World.rangeAt _ w1.heap.size 0 x0.cells from b1.range 0 30) (fun hHeld => ?_)
                    clear hK K'
                    try simp only [Act.put, List.setIfInBounds_toArray, List.set_cons_zero, List.set_cons_succ]
                    refine wpAnyH_ready (rs := [5]) (by kernel_rfl) (by simp) (AllReadyH.cons (o := ⟨none, .store 38 (.tmp 8) (.tmp 45), _, _, _, none⟩) rfl (fun K' hK => ?_) AllReadyH.nil)
                    refine wp_store_abs 38 _ _ rfl u1.heap.size 38 zS.eff (sB bI (.slice AW (rW bI).ws.length cw) (.slice AA (rW bI).ac.length ca)).eff rfl rfl bN (eff_sz _) rfl (eff_one _ rfl rfl) ?_
                    intro wq2 bq oq
                    replace b1 := b1.only oq n2
                    replace lq := Below.only lq oq m2
                    replace sw := sw.only3 oq (fun ad e => (by have := hw ad e; omega))
                    replace sa := sa.only3 oq (fun ad e => (by have := ha ad e; omega))
                    clear bN oq
                    refine hK.out _ _ (show World.rangeAt _ w1.heap.size 0 x0.cells from b1.range 0 30) (fun hHeld => ?_)
                    clear hK K'
                    try simp only [Act.put]
                    refine wpAnyH_done (by kernel_rfl) ?_ _
                    clear hHeld
                    go_wp2
                    go_meet
                    exact ⟨_, _, _, _, _, rfl, bq, sw, sa, lq⟩
                · go_simp
                  have n2 := Nat.ne_of_lt b1.lt
                  have m2 := lq.size
                  have bN := Blk.new wc.drew 38 _ zS.eff rfl
                  replace b1 := b1.alloc (.cells zS.eff.toArray 38)
                  replace lq := lq.alloc m2 (.cells zS.eff.toArray 38)
                  refine hK.out _ _ (show World.rangeAt _ w1.heap.size 0 x0.cells from b1.range 0 30) (fun hHeld => ?_)
                  clear hK K'
                  try simp only [Act.put, List.setIfInBounds_toArray, List.set_cons_zero, List.set_cons_succ]
                  refine wpAnyH_ready (rs := [2]) (by kernel_rfl) (by simp) (AllReadyH.cons (o := ⟨some 44, .call { callee := .value (.func 32), args := #[.tmp 43], argTypes := #[70] }, _, _, _, none⟩) rfl (fun K' hK => ?_) AllReadyH.nil)
                  go_simp
                  refine (HbI.out _).mono ?_
                  rintro e u1 ⟨A1, c1, rfl, s1, l1⟩
                  replace b1 := b1.keep l1
                  replace lq := Later.trans_ lq l1
                  replace bN := bN.keep l1
                  clear l1
                  refine hK.out _ _ (show World.rangeAt _ w1.heap.size 0 x0.cells from b1.range 0 30) (fun hHeld => ?_)
                  clear hK K'
                  try simp only [Act.put, List.setIfInBounds_toArray, List.set_cons_zero, List.set_cons_succ]
                  refine wpAnyH_ready (rs := [3]) (by kernel_rfl) (by simp) (AllReadyH.cons (o := ⟨some 45, .call { callee := .value (.func 13), args := #[.tmp 42, .tmp 44, .const (.int .u32 0)], argTypes := #[26, 29, 22] }, _, _, _, none⟩) rfl (fun K' hK => ?_) AllReadyH.nil)
                  go_simp
                  refine (HST.out bI _ A1 c1 s1 (bI_bs) (Later.trans_ lw lq)).mono ?_
                  have gN := bN.lt
                  rintro e u2 ⟨v1, a1, rfl, k1, k2, l1⟩
                  obtain ⟨AW, cw, rfl, sw, hw⟩ := own4 k1
                  obtain ⟨AA, ca, rfl, sa, ha⟩ := own4 k2
                  clear k1 k2 s1
                  replace b1 := b1.keep l1
                  replace lq := Later.trans_ lq l1
                  replace bN := bN.keep l1
                  clear l1
                  refine hK.out _ _ (show World.rangeAt _ w1.heap.size 0 x0.cells from b1.range 0 30) (fun hHeld => ?_)
                  clear hK K'
                  try simp only [Act.put, List.setIfInBounds_toArray, List.set_cons_zero, List.set_cons_succ]
                  refine wpAnyH_ready (rs := [5]) (by kernel_rfl) (by simp) (AllReadyH.cons (o := ⟨none, .store 38 (.tmp 8) (.tmp 45), _, _, _, none⟩) rfl (fun K' hK => ?_) AllReadyH.nil)
                  refine wp_store_abs 38 _ _ rfl wc.heap.size 38 zS.eff (sB bI (.slice AW (rW bI).ws.length cw) (.slice AA (rW bI).ac.length ca)).eff rfl rfl bN (eff_sz _) rfl (eff_one _ rfl rfl) ?_
                  intro wq2 bq oq
                  replace b1 := b1.only oq n2
                  replace lq := Below.only lq oq m2
                  replace sw := sw.only3 oq (fun ad e => (by have := hw ad e; omega))
                  replace sa := sa.only3 oq (fun ad e => (by have := ha ad e; omega))
                  clear bN oq
                  refine hK.out _ _ (show World.rangeAt _ w1.heap.size 0 x0.cells from b1.range 0 30) (fun hHeld => ?_)
                  clear hK K'
                  try simp only [Act.put]
                  refine wpAnyH_done (by kernel_rfl) ?_ _
                  clear hHeld
                  go_wp2
                  go_meet
                  exact ⟨_, _, _, _, _, rfl, bq, sw, sa, lq⟩
              case rest =>
                obtain ⟨g8, p8, q8, r8, t8, rfl, x8, sw8, sa8, lq⟩ := hcut
                replace b1 := b1.keep lq
                replace lw := Later.trans_ lw lq
                replace x2 := x2.keep lq
                replace x3 := x3.keep lq
                replace sw3 := sw3.keep lq
                replace sa3 := sa3.keep lq
                replace x4 := x4.keep lq
                replace x5 := x5.keep lq
                replace x6 := x6.keep lq
                replace x7 := x7.keep lq
                clear lq
                have HA := Lib.hid fun w' (l : Later w w') (s1 : Sl w' 3 p8 (rW bI).ws.length (Ws (rW bI).ws)) (s2 : Sl w' 3 r8 (rW bI).ac.length (Acs (rW bI).ac)) => ans_ok (sB bI (.slice p8 (rW bI).ws.length q8) (.slice r8 (rW bI).ac.length t8)) p8 r8 (rW bI).ws.length (rW bI).ac.length q8 t8 (Ws (rW bI).ws) (Acs (rW bI).ac) 9 w' (by kernel_rfl) rfl rfl s1 s2 (by decide +kernel) (by decide +kernel) (show 0 ≤ (rW bI).wd ∧ (rW bI).wd < 4294967296 by decide +kernel) (show Im.Right (decI_S (rW bI).wd) by decide +kernel) (HT.out _ l)
                go_upto_region 12 with (first
                  | ((with_reducible refine wpList_load_blk (o := ⟨some 46, .load 38 (.tmp 8), _, _, _, none⟩) rfl _ _ rfl g8 38 (sB bI (.slice p8 (rW bI).ws.length q8) (.slice r8 (rW bI).ac.length t8)).eff _ ?_ ?_ Tryz.underlying38 rfl (eff_sz _) ?_); rfl; exact x8)
                  | (go_at_call 15; refine (HA.out _ lw sw8 sa8).mono ?_; rintro e w9 ⟨A1, c1, A2, c2, rfl, _, _, l9⟩; replace lw := Later.trans_ lw l9; replace x2 := x2.keep l9; replace x3 := x3.keep l9; replace x4 := x4.keep l9; replace x5 := x5.keep l9; replace x6 := x6.keep l9; replace x7 := x7.keep l9; replace x8 := x8.keep l9; replace sw3 := sw3.keep l9; replace sa3 := sa3.keep l9)
                  | ((with_reducible refine wpList_store_abs (o := ⟨none, .store 38 (.tmp 9) (.tmp 47), _, _, _, none⟩) rfl _ _ _ rfl w9.heap.size 38 zS.eff (((sB bI (.slice p8 (rW bI).ws.length q8) (.slice r8 (rW bI).ac.length t8)).given (decI_S (rW bI).wd) 9 (.slice A1 (rW bI).ws.length c1) (.slice A2 (rW bI).ac.length c2))).eff ?_ ?_ ?_ ?_ ?_ ?_ ?_); rfl; rfl; exact (Blk.new _ _ _ _ rfl); exact eff_sz _; rfl; exact eff_one _ rfl rfl; intro wz x9 o9; replace x2 := (x2.alloc (.cells zS.eff.toArray 38)).only o9 (Nat.ne_of_lt x2.lt); replace x3 := (x3.alloc (.cells zS.eff.toArray 38)).only o9 (Nat.ne_of_lt x3.lt); replace x4 := (x4.alloc (.cells zS.eff.toArray 38)).only o9 (Nat.ne_of_lt x4.lt); replace x5 := (x5.alloc (.cells zS.eff.toArray 38)).only o9 (Nat.ne_of_lt x5.lt); replace x6 := (x6.alloc (.cells zS.eff.toArray 38)).only o9 (Nat.ne_of_lt x6.lt); replace x7 := (x7.alloc (.cells zS.eff.toArray 38)).only o9 (Nat.ne_of_lt x7.lt); replace x8 := (x8.alloc (.cells zS.eff.toArray 38)).only o9 (Nat.ne_of_lt x8.lt); have h3w := fun ad (e : p3 = some ad) => Nat.ne_of_lt (sl_lt3 sw3 (by decide +kernel) e); have h3a := fun ad (e : r3 = some ad) => Nat.ne_of_lt (sl_lt3 sa3 (by decide +kernel) e); replace sw3 := (sw3.alloc (.cells zS.eff.toArray 38)).only3 o9 h3w; replace sa3 := (sa3.alloc (.cells zS.eff.toArray 38)).only3 o9 h3a; replace lw := Below.only (lw.alloc lw.size (.cells zS.eff.toArray 38)) o9 lw.size; clear h3w h3a o9))
                clear sw8 sa8 b1 HA
                have k2_0 := x2.cell (j := 0) (v := .bool true) (by kernel_rfl)
                have k2_3 := x2.cell (j := 3) (v := .int .u32 5) (by kernel_rfl)
                have k2_1 := x2.cell (j := 1) (v := .int .u32 4) (by kernel_rfl)
                have k2_30 := x2.cell (j := 30) (v := .int .i64 1) (by kernel_rfl)
                have k3_62 := x3.cell (j := 62) (v := .slice p3 1 q3) (by kernel_rfl)
                have k3_63 := x3.cell (j := 63) (v := .slice r3 2 t3) (by kernel_rfl)
                go_upto_region 14 with fail
                clear k2_0 k2_3 k2_1 k2_30 k3_62 k3_63 x2
                go_upto_region 15 with fail
                have lz := lw
                obtain ⟨ad, hp3, _, _⟩ := sw3.2 (by decide +kernel)
                obtain ⟨ae, hr3, _, _⟩ := sa3.2 (by decide +kernel)
                subst hp3 hr3
                have hWs : Ws (rW bB).ws = [.int .i64 8, .int .i64 4, .int .u32 7] := by kernel_rfl
                have hAc : Acs (rW bB).ac = [.int .i64 0, .int .i64 4, .bool false, .int .i64 8, .int .i64 4, .bool true] := by kernel_rfl
                have hn1 : (rW bB).ws.length = 1 := by kernel_rfl
                have hn2 : (rW bB).ac.length = 2 := by kernel_rfl
                replace sw3 := (sw3.alloc (.cells #[.int .i64 8, .int .i64 4, .int .u32 7] 64)).drew
                replace sa3 := (sa3.alloc (.cells #[.int .i64 8, .int .i64 4, .int .u32 7] 64)).drew
                rw [hWs, hn1] at sw3
                rw [hAc, hn2] at sa3
                have hqw : ∀ w', (Op.equalIn 10000 64 (.agg #[.int .i64 8, .int .i64 4, .int .u32 7]) (.agg #[.int .i64 8, .int .i64 4, .int .u32 7])).run Tryz.prog w' = .ok true w' := fun w' => wr_same w'
                have F4 := ((Blk.new wz 64 #[.int .i64 8, .int .i64 4, .int .u32 7] [.int .i64 8, .int .i64 4, .int .u32 7] rfl).drew).range 0 3
                replace x3 := (x3.alloc (.cells #[.int .i64 8, .int .i64 4, .int .u32 7] 64)).drew
                replace x4 := (x4.alloc (.cells #[.int .i64 8, .int .i64 4, .int .u32 7] 64)).drew
                replace x5 := (x5.alloc (.cells #[.int .i64 8, .int .i64 4, .int .u32 7] 64)).drew
                replace x6 := (x6.alloc (.cells #[.int .i64 8, .int .i64 4, .int .u32 7] 64)).drew
                replace x7 := (x7.alloc (.cells #[.int .i64 8, .int .i64 4, .int .u32 7] 64)).drew
                replace x8 := (x8.alloc (.cells #[.int .i64 8, .int .i64 4, .int .u32 7] 64)).drew
                replace x9 := (x9.alloc (.cells #[.int .i64 8, .int .i64 4, .int .u32 7] 64)).drew
                replace lw := (lw.alloc lw.size (.cells #[.int .i64 8, .int .i64 4, .int .u32 7] 64)).drew
                have F1 := x3.cell (j := 62) (v := .slice (some ad) 1 q3) (by kernel_rfl)
                have F2 := x3.cell (j := 63) (v := .slice (some ae) 2 t3) (by kernel_rfl)
                have F3 : ∀ (j : Nat) (v : Value), ([.int .i64 8, .int .i64 4, .int .u32 7] : List Value)[j]? = some v → _ := fun j v hj => (sl_cells3 sw3 (by omega) j v hj)
                have F5 := sl_cells3 sa3 (by omega) 0 _ rfl
                have F6 := sl_cells3 sa3 (by omega) 2 _ rfl
                have F7 := sl_cells3 sa3 (by omega) 3 _ rfl
                have F8 := sl_cells3 sa3 (by omega) 5 _ rfl
                rw [show ae.add 0 = ae from by unfold Addr.add; rw [if_pos rfl]] at F5
                rw [show ae.add 2 = ⟨ae.block, ae.off + 2, none⟩ from by unfold Addr.add; rw [if_neg (by decide)]] at F6
                rw [show ae.add 3 = ⟨ae.block, ae.off + 3, none⟩ from by unfold Addr.add; rw [if_neg (by decide)]] at F7
                rw [show ae.add 5 = ⟨ae.block, ae.off + 5, none⟩ from by unfold Addr.add; rw [if_neg (by decide)]] at F8
                clear hWs hAc hn1 hn2 sw3 sa3
                refine wp_region_held_drew (S := fun w' => w'.cell? ⟨g3, 62, none⟩ = some (.slice (some ad) 1 q3) ∧ w'.cell? ⟨g3, 63, none⟩ = some (.slice (some ae) 2 t3) ∧ (∀ (j : Nat) (v : Value), ([.int .i64 8, .int .i64 4, .int .u32 7] : List Value)[j]? = some v → w'.cell? (ad.add j) = some v) ∧ World.rangeAt w' wz.heap.size 0 [.int .i64 8, .int .i64 4, .int .u32 7] ∧ w'.cell? ae = some (.int .i64 0) ∧ w'.cell? ⟨ae.block, ae.off + 2, none⟩ = some (.bool false) ∧ w'.cell? ⟨ae.block, ae.off + 3, none⟩ = some (.int .i64 8) ∧ w'.cell? ⟨ae.block, ae.off + 5, none⟩ = some (.bool true)) (by kernel_rfl) ⟨F1, F2, F3, F4, F5, F6, F7, F8⟩ (fun hHeld => ?_)
                refine wpAnyH_take (i := 0) (oi := ⟨some 83, .fieldAddr 38 (.tmp 3) 4, _, _, _, none⟩) (v := .pointer (some ⟨g3, 62, none⟩)) rfl (by kernel_rfl) (by kernel_rfl) (by kernel_rfl) (fun _ _ _ h => h) (Or.inl ⟨by rfl, fun w _ => by go_simp⟩) hHeld ?_
                simp only [Act.put, List.setIfInBounds_toArray, List.set_cons_zero, List.set_cons_succ]
                refine wpAnyH_take (i := 1) (oi := ⟨some 84, .load 33 (.tmp 83), _, _, _, none⟩) (v := .slice (some ad) 1 q3) rfl (by kernel_rfl) (by kernel_rfl) (by kernel_rfl) (fun _ _ _ h => h) (Or.inl ⟨by rfl, fun w hSw => by have e1 := hSw.1; clear hSw; go_simp⟩) hHeld ?_
                simp only [Act.put, List.setIfInBounds_toArray, List.set_cons_zero, List.set_cons_succ]
                refine wpAnyH_take (i := 2) (oi := ⟨some 85, .indexAddr 33 (.tmp 84) (.const (.int .i64 0)), _, _, _, none⟩) (v := .pointer (some ad)) rfl (by kernel_rfl) (by kernel_rfl) (by kernel_rfl) (fun _ _ _ h => h) (Or.inl ⟨by rfl, fun w _ => by go_simp⟩) hHeld ?_
                simp only [Act.put, List.setIfInBounds_toArray, List.set_cons_zero, List.set_cons_succ]
                refine wpAnyH_take (i := 3) (oi := ⟨some 86, .load 64 (.tmp 85), _, _, _, none⟩) (v := .agg #[.int .i64 8, .int .i64 4, .int .u32 7]) rfl (by kernel_rfl) (by kernel_rfl) (by kernel_rfl) (fun _ _ _ h => h) (yieldsIf_load_addr (by rfl) _ _ rfl ad rfl [.int .i64 8, .int .i64 4, .int .u32 7] _ (fun w h => h.2.2.1) Tryz.underlying64 rfl (show _ = some 3 by kernel_rfl)) hHeld ?_
                simp only [Act.put, List.setIfInBounds_toArray, List.set_cons_zero, List.set_cons_succ]
                refine wpAnyH_take (i := 4) (oi := ⟨some 87, .load 64 (.tmp 10), _, _, _, none⟩) (v := .agg #[.int .i64 8, .int .i64 4, .int .u32 7]) rfl (by kernel_rfl) (by kernel_rfl) (by kernel_rfl) (fun _ _ _ h => h) (yieldsIf_load_mid (by rfl) _ _ rfl _ _ rfl [.int .i64 8, .int .i64 4, .int .u32 7] _ (fun w h => h.2.2.2.1) Tryz.underlying64 rfl (show _ = some 3 by kernel_rfl)) hHeld ?_
                simp only [Act.put, List.setIfInBounds_toArray, List.set_cons_zero, List.set_cons_succ]
                refine wpAnyH_take (i := 5) (oi := ⟨some 88, .binOp .eql 64 (.tmp 86) (.tmp 87) 64, _, _, _, none⟩) (v := .bool true) rfl (by kernel_rfl) (by kernel_rfl) (by kernel_rfl) (fun _ _ _ h => h) (Or.inl ⟨by rfl, fun w _ => by go_simp⟩) hHeld ?_
                simp only [Act.put, List.setIfInBounds_toArray, List.set_cons_zero, List.set_cons_succ]
                refine wpAnyH_take (i := 6) (oi := ⟨some 89, .move (.tmp 88), _, _, _, none⟩) (v := .bool true) rfl (by kernel_rfl) (by kernel_rfl) (by kernel_rfl) (fun _ _ _ h => h) (Or.inl ⟨by rfl, fun _ _ => rfl⟩) hHeld ?_
                simp only [Act.put, List.setIfInBounds_toArray, List.set_cons_zero, List.set_cons_succ]
                refine wpAnyH_take (i := 7) (oi := ⟨some 90, .fieldAddr 38 (.tmp 3) 5, _, _, _, _⟩) (v := .pointer (some ⟨g3, 63, none⟩)) rfl (by kernel_rfl) (by kernel_rfl) (by kernel_rfl) (fun _ _ _ h => h) (Or.inl ⟨by rfl, fun w _ => by go_simp⟩) hHeld ?_
                simp only [Act.put, List.setIfInBounds_toArray, List.set_cons_zero, List.set_cons_succ]
                refine wpAnyH_take (i := 8) (oi := ⟨some 91, .load 34 (.tmp 90), _, _, _, _⟩) (v := .slice (some ae) 2 t3) rfl (by kernel_rfl) (by kernel_rfl) (by kernel_rfl) (fun _ _ _ h => h) (Or.inl ⟨by rfl, fun w hSw => by have e1 := hSw.2.1; clear hSw; go_simp⟩) hHeld ?_
                simp only [Act.put, List.setIfInBounds_toArray, List.set_cons_zero, List.set_cons_succ]
                refine wpAnyH_take (i := 9) (oi := ⟨some 92, .indexAddr 34 (.tmp 91) (.const (.int .i64 0)), _, _, _, _⟩) (v := .pointer (some ae)) rfl (by kernel_rfl) (by kernel_rfl) (by kernel_rfl) (fun _ _ _ h => h) (Or.inl ⟨by rfl, fun w _ => by go_simp⟩) hHeld ?_
                simp only [Act.put, List.setIfInBounds_toArray, List.set_cons_zero, List.set_cons_succ]
                refine wpAnyH_take (i := 10) (oi := ⟨some 93, .fieldAddr 53 (.tmp 92) 0, _, _, _, _⟩) (v := .pointer (some ae)) rfl (by kernel_rfl) (by kernel_rfl) (by kernel_rfl) (fun _ _ _ h => h) (Or.inl ⟨by rfl, fun w _ => by go_simp⟩) hHeld ?_
                simp only [Act.put, List.setIfInBounds_toArray, List.set_cons_zero, List.set_cons_succ]
                refine wpAnyH_take (i := 11) (oi := ⟨some 94, .load 3 (.tmp 93), _, _, _, _⟩) (v := .int .i64 0) rfl (by kernel_rfl) (by kernel_rfl) (by kernel_rfl) (fun _ _ _ h => h) (Or.inl ⟨by rfl, fun w hSw => by have e1 := hSw.2.2.2.2.1; clear hSw; go_simp⟩) hHeld ?_
                simp only [Act.put, List.setIfInBounds_toArray, List.set_cons_zero, List.set_cons_succ]
                refine wpAnyH_take (i := 12) (oi := ⟨some 95, .binOp .eql 3 (.tmp 94) (.const (.int .i64 0)) 3, _, _, _, _⟩) (v := .bool true) rfl (by kernel_rfl) (by kernel_rfl) (by kernel_rfl) (fun _ _ _ h => h) (Or.inl ⟨by rfl, fun w _ => by go_simp⟩) hHeld ?_
                simp only [Act.put, List.setIfInBounds_toArray, List.set_cons_zero, List.set_cons_succ]
                refine wpAnyH_take (i := 13) (oi := ⟨some 96, .pick (.tmp 89) (.tmp 95) (.const (.bool false)), _, _, _, none⟩) (v := .bool true) rfl (by kernel_rfl) (by kernel_rfl) (by kernel_rfl) (fun _ _ _ h => h) (Or.inl ⟨by rfl, fun w _ => by go_simp⟩) hHeld ?_
                simp only [Act.put, List.setIfInBounds_toArray, List.set_cons_zero, List.set_cons_succ]
                refine wpAnyH_take (i := 14) (oi := ⟨some 97, .move (.tmp 96), _, _, _, none⟩) (v := .bool true) rfl (by kernel_rfl) (by kernel_rfl) (by kernel_rfl) (fun _ _ _ h => h) (Or.inl ⟨by rfl, fun _ _ => rfl⟩) hHeld ?_
                simp only [Act.put, List.setIfInBounds_toArray, List.set_cons_zero, List.set_cons_succ]
                refine wpAnyH_take (i := 15) (oi := ⟨some 98, .fieldAddr 38 (.tmp 3) 5, _, _, _, _⟩) (v := .pointer (some ⟨g3, 63, none⟩)) rfl (by kernel_rfl) (by kernel_rfl) (by kernel_rfl) (fun _ _ _ h => h) (Or.inl ⟨by rfl, fun w _ => by go_simp⟩) hHeld ?_
                simp only [Act.put, List.setIfInBounds_toArray, List.set_cons_zero, List.set_cons_succ]
                refine wpAnyH_take (i := 16) (oi := ⟨some 99, .load 34 (.tmp 98), _, _, _, _⟩) (v := .slice (some ae) 2 t3) rfl (by kernel_rfl) (by kernel_rfl) (by kernel_rfl) (fun _ _ _ h => h) (Or.inl ⟨by rfl, fun w hSw => by have e1 := hSw.2.1; clear hSw; go_simp⟩) hHeld ?_
                simp only [Act.put, List.setIfInBounds_toArray, List.set_cons_zero, List.set_cons_succ]
                refine wpAnyH_take (i := 17) (oi := ⟨some 100, .indexAddr 34 (.tmp 99) (.const (.int .i64 0)), _, _, _, _⟩) (v := .pointer (some ae)) rfl (by kernel_rfl) (by kernel_rfl) (by kernel_rfl) (fun _ _ _ h => h) (Or.inl ⟨by rfl, fun w _ => by go_simp⟩) hHeld ?_
                simp only [Act.put, List.setIfInBounds_toArray, List.set_cons_zero, List.set_cons_succ]
                refine wpAnyH_take (i := 18) (oi := ⟨some 101, .fieldAddr 53 (.tmp 100) 2, _, _, _, _⟩) (v := .pointer (some ⟨ae.block, ae.off + 2, none⟩)) rfl (by kernel_rfl) (by kernel_rfl) (by kernel_rfl) (fun _ _ _ h => h) (Or.inl ⟨by rfl, fun w _ => by go_simp⟩) hHeld ?_
                simp only [Act.put, List.setIfInBounds_toArray, List.set_cons_zero, List.set_cons_succ]
                refine wpAnyH_take (i := 19) (oi := ⟨some 102, .load 4 (.tmp 101), _, _, _, _⟩) (v := .bool false) rfl (by kernel_rfl) (by kernel_rfl) (by kernel_rfl) (fun _ _ _ h => h) (Or.inl ⟨by rfl, fun w hSw => by have e1 := hSw.2.2.2.2.2.1; clear hSw; go_simp⟩) hHeld ?_
                simp only [Act.put, List.setIfInBounds_toArray, List.set_cons_zero, List.set_cons_succ]
                refine wpAnyH_take (i := 20) (oi := ⟨some 103, .unOp .not 4 (.tmp 102), _, _, _, _⟩) (v := .bool true) rfl (by kernel_rfl) (by kernel_rfl) (by kernel_rfl) (fun _ _ _ h => h) (Or.inl ⟨by rfl, fun w _ => by go_simp⟩) hHeld ?_
                simp only [Act.put, List.setIfInBounds_toArray, List.set_cons_zero, List.set_cons_succ]
                refine wpAnyH_take (i := 21) (oi := ⟨some 104, .pick (.tmp 97) (.tmp 103) (.const (.bool false)), _, _, _, none⟩) (v := .bool true) rfl (by kernel_rfl) (by kernel_rfl) (by kernel_rfl) (fun _ _ _ h => h) (Or.inl ⟨by rfl, fun w _ => by go_simp⟩) hHeld ?_
                simp only [Act.put, List.setIfInBounds_toArray, List.set_cons_zero, List.set_cons_succ]
                refine wpAnyH_take (i := 22) (oi := ⟨some 105, .move (.tmp 104), _, _, _, none⟩) (v := .bool true) rfl (by kernel_rfl) (by kernel_rfl) (by kernel_rfl) (fun _ _ _ h => h) (Or.inl ⟨by rfl, fun _ _ => rfl⟩) hHeld ?_
                simp only [Act.put, List.setIfInBounds_toArray, List.set_cons_zero, List.set_cons_succ]
                refine wpAnyH_take (i := 23) (oi := ⟨some 106, .fieldAddr 38 (.tmp 3) 5, _, _, _, _⟩) (v := .pointer (some ⟨g3, 63, none⟩)) rfl (by kernel_rfl) (by kernel_rfl) (by kernel_rfl) (fun _ _ _ h => h) (Or.inl ⟨by rfl, fun w _ => by go_simp⟩) hHeld ?_
                simp only [Act.put, List.setIfInBounds_toArray, List.set_cons_zero, List.set_cons_succ]
                refine wpAnyH_take (i := 24) (oi := ⟨some 107, .load 34 (.tmp 106), _, _, _, _⟩) (v := .slice (some ae) 2 t3) rfl (by kernel_rfl) (by kernel_rfl) (by kernel_rfl) (fun _ _ _ h => h) (Or.inl ⟨by rfl, fun w hSw => by have e1 := hSw.2.1; clear hSw; go_simp⟩) hHeld ?_
                simp only [Act.put, List.setIfInBounds_toArray, List.set_cons_zero, List.set_cons_succ]
                refine wpAnyH_take (i := 25) (oi := ⟨some 108, .indexAddr 34 (.tmp 107) (.const (.int .i64 1)), _, _, _, _⟩) (v := .pointer (some ⟨ae.block, ae.off + 3, none⟩)) rfl (by kernel_rfl) (by kernel_rfl) (by kernel_rfl) (fun _ _ _ h => h) (Or.inl ⟨by rfl, fun w _ => by go_simp⟩) hHeld ?_
                simp only [Act.put, List.setIfInBounds_toArray, List.set_cons_zero, List.set_cons_succ]
                refine wpAnyH_take (i := 26) (oi := ⟨some 109, .fieldAddr 53 (.tmp 108) 0, _, _, _, _⟩) (v := .pointer (some ⟨ae.block, ae.off + 3, none⟩)) rfl (by kernel_rfl) (by kernel_rfl) (by kernel_rfl) (fun _ _ _ h => h) (Or.inl ⟨by rfl, fun w _ => by go_simp⟩) hHeld ?_
                simp only [Act.put, List.setIfInBounds_toArray, List.set_cons_zero, List.set_cons_succ]
                refine wpAnyH_take (i := 27) (oi := ⟨some 110, .load 3 (.tmp 109), _, _, _, _⟩) (v := .int .i64 8) rfl (by kernel_rfl) (by kernel_rfl) (by kernel_rfl) (fun _ _ _ h => h) (Or.inl ⟨by rfl, fun w hSw => by have e1 := hSw.2.2.2.2.2.2.1; clear hSw; go_simp⟩) hHeld ?_
                simp only [Act.put, List.setIfInBounds_toArray, List.set_cons_zero, List.set_cons_succ]
                refine wpAnyH_take (i := 28) (oi := ⟨some 111, .binOp .eql 3 (.tmp 110) (.const (.int .i64 8)) 3, _, _, _, _⟩) (v := .bool true) rfl (by kernel_rfl) (by kernel_rfl) (by kernel_rfl) (fun _ _ _ h => h) (Or.inl ⟨by rfl, fun w _ => by go_simp⟩) hHeld ?_
                simp only [Act.put, List.setIfInBounds_toArray, List.set_cons_zero, List.set_cons_succ]
                refine wpAnyH_take (i := 29) (oi := ⟨some 112, .pick (.tmp 105) (.tmp 111) (.const (.bool false)), _, _, _, none⟩) (v := .bool true) rfl (by kernel_rfl) (by kernel_rfl) (by kernel_rfl) (fun _ _ _ h => h) (Or.inl ⟨by rfl, fun w _ => by go_simp⟩) hHeld ?_
                simp only [Act.put, List.setIfInBounds_toArray, List.set_cons_zero, List.set_cons_succ]
                refine wpAnyH_take (i := 30) (oi := ⟨some 113, .move (.tmp 112), _, _, _, none⟩) (v := .bool true) rfl (by kernel_rfl) (by kernel_rfl) (by kernel_rfl) (fun _ _ _ h => h) (Or.inl ⟨by rfl, fun _ _ => rfl⟩) hHeld ?_
                simp only [Act.put, List.setIfInBounds_toArray, List.set_cons_zero, List.set_cons_succ]
                refine wpAnyH_take (i := 31) (oi := ⟨some 114, .fieldAddr 38 (.tmp 3) 5, _, _, _, _⟩) (v := .pointer (some ⟨g3, 63, none⟩)) rfl (by kernel_rfl) (by kernel_rfl) (by kernel_rfl) (fun _ _ _ h => h) (Or.inl ⟨by rfl, fun w _ => by go_simp⟩) hHeld ?_
                simp only [Act.put, List.setIfInBounds_toArray, List.set_cons_zero, List.set_cons_succ]
                refine wpAnyH_take (i := 32) (oi := ⟨some 115, .load 34 (.tmp 114), _, _, _, _⟩) (v := .slice (some ae) 2 t3) rfl (by kernel_rfl) (by kernel_rfl) (by kernel_rfl) (fun _ _ _ h => h) (Or.inl ⟨by rfl, fun w hSw => by have e1 := hSw.2.1; clear hSw; go_simp⟩) hHeld ?_
                simp only [Act.put, List.setIfInBounds_toArray, List.set_cons_zero, List.set_cons_succ]
                refine wpAnyH_take (i := 33) (oi := ⟨some 116, .indexAddr 34 (.tmp 115) (.const (.int .i64 1)), _, _, _, _⟩) (v := .pointer (some ⟨ae.block, ae.off + 3, none⟩)) rfl (by kernel_rfl) (by kernel_rfl) (by kernel_rfl) (fun _ _ _ h => h) (Or.inl ⟨by rfl, fun w _ => by go_simp⟩) hHeld ?_
                simp only [Act.put, List.setIfInBounds_toArray, List.set_cons_zero, List.set_cons_succ]
                refine wpAnyH_take (i := 34) (oi := ⟨some 117, .fieldAddr 53 (.tmp 116) 2, _, _, _, _⟩) (v := .pointer (some ⟨ae.block, ae.off + 5, none⟩)) rfl (by kernel_rfl) (by kernel_rfl) (by kernel_rfl) (fun _ _ _ h => h) (Or.inl ⟨by rfl, fun w _ => by go_simp⟩) hHeld ?_
                simp only [Act.put, List.setIfInBounds_toArray, List.set_cons_zero, List.set_cons_succ]
                refine wpAnyH_take (i := 35) (oi := ⟨some 118, .load 4 (.tmp 117), _, _, _, _⟩) (v := .bool true) rfl (by kernel_rfl) (by kernel_rfl) (by kernel_rfl) (fun _ _ _ h => h) (Or.inl ⟨by rfl, fun w hSw => by have e1 := hSw.2.2.2.2.2.2.2; clear hSw; go_simp⟩) hHeld ?_
                simp only [Act.put, List.setIfInBounds_toArray, List.set_cons_zero, List.set_cons_succ]
                refine wpAnyH_take (i := 36) (oi := ⟨some 119, .pick (.tmp 113) (.tmp 118) (.const (.bool false)), _, _, _, none⟩) (v := .bool true) rfl (by kernel_rfl) (by kernel_rfl) (by kernel_rfl) (fun _ _ _ h => h) (Or.inl ⟨by rfl, fun w _ => by go_simp⟩) hHeld ?_
                simp only [Act.put, List.setIfInBounds_toArray, List.set_cons_zero, List.set_cons_succ]
                refine wpAnyH_take (i := 37) (oi := ⟨some 11, .assign (.tmp 119), _, _, _, none⟩) (v := .bool true) rfl (by kernel_rfl) (by kernel_rfl) (by kernel_rfl) (fun _ _ _ h => h) (Or.inl ⟨by rfl, fun _ _ => rfl⟩) hHeld ?_
                simp only [Act.put, List.setIfInBounds_toArray, List.set_cons_zero, List.set_cons_succ]
                refine wpAnyH_done (by kernel_rfl) ?_ _
                clear hHeld
                clear F1 F2 F3 F4 F5 F6 F7 F8 hqw x3
                have k4_70 := x4.cell (j := 70) (v := .int .i64 3) (by kernel_rfl)
                have k4_22 := x4.cell (j := 22) (v := .int .u32 130) (by kernel_rfl)
                have k4_1 := x4.cell (j := 1) (v := .int .u32 64) (by kernel_rfl)
                have k5_70 := x5.cell (j := 70) (v := .int .i64 5) (by kernel_rfl)
                have k5_22 := x5.cell (j := 22) (v := .int .u32 128) (by kernel_rfl)
                have k6_70 := x6.cell (j := 70) (v := .int .i64 2) (by kernel_rfl)
                have k6_20 := x6.cell (j := 20) (v := .int .u32 0) (by kernel_rfl)
                go_upto_region 17 with fail
                clear k4_70 k4_22 k4_1 k5_70 k5_22 k6_70 k6_20 x4 x5 x6
                have k7_70 := x7.cell (j := 70) (v := .int .i64 1) (by kernel_rfl)
                have k7_20 := x7.cell (j := 20) (v := .int .u32 4) (by kernel_rfl)
                have k8_64 := x8.cell (j := 64) (v := .bool true) (by kernel_rfl)
                have k8_66 := x8.cell (j := 66) (v := .int .i64 33) (by kernel_rfl)
                have k9_64 := x9.cell (j := 64) (v := .bool false) (by kernel_rfl)
                have k9_3 := x9.cell (j := 3) (v := .int .u32 9) (by kernel_rfl)
                have k9_1 := x9.cell (j := 1) (v := .int .u32 4) (by kernel_rfl)
                go_wp2
                go_ret
                exact ⟨rfl, lw⟩
end Go.Proofs.YtidhodalnikhlaaGreatDoor
